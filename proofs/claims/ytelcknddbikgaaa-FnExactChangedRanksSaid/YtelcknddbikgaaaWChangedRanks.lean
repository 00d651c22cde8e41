/- The law FnExactChangedRanks, walked. -/
import Derived.Test.YtelcknddbikgaaaIr9
import Derived.Test.YtelcknddbikgaaaRow
import Derived.Test.YtelcknddbikgaaaLs
namespace Go.Proofs.Ytelcknddbikgaaa
open Go.RowKit Go.Dues
set_option maxRecDepth 100000 in
set_option maxHeartbeats 4000000 in
theorem lawChangedRanks_any (A0 : Option Addr) (n0 c0 : Nat) (x0 : Nat → Int) (A1 : Option Addr) (n1 c1 : Nat) (x1 : Nat → Int) (w : World) (hm0 : n0 ≤ maxLen) (hs0 : SL w A0 n0 (fun j => .int .i64 (x0 j))) (hm1 : n1 ≤ maxLen) (hs1 : SL w A1 n1 (fun j => .int .i64 (x1 j))) :
    Calls Try.prog 9 #[.slice A0 n0 c0, .slice A1 n1 c1] w fun e w' => e = .returned (.bool true) ∧ Below w.heap.size w w' := by
  unfold maxLen at hm0
  by_cases hbig0 : (1048576 : Int) < (n0 : Int)
  · clear hs0 hs1
    go_enter Try.func9, Try.ntmps9
    go_wp2
    go_ret
    exact ⟨rfl, Below.refl _ _⟩
  have hm0 : n0 ≤ maxLen := hm0
  have hn0 : n0 ≤ 1048576 := by omega
  unfold maxLen at hm1
  by_cases hbig1 : (1048576 : Int) < (n1 : Int)
  · clear hs0 hs1
    go_enter Try.func9, Try.ntmps9
    go_wp2
    go_ret
    exact ⟨rfl, Below.refl _ _⟩
  have hm1 : n1 ≤ maxLen := hm1
  have hn1 : n1 ≤ 1048576 := by omega
  have HS0 := hide hs0
  clear hs0
  have HS1 := hide hs1
  clear hs1
  obtain ⟨w0, hw0⟩ : ∃ u, u = w := ⟨_, rfl⟩
  have HB0 : Hid (Below w.heap.size w w0) := by rw [hw0]; exact Below.refl _ _
  have hs0 : w.heap.size ≤ w0.heap.size := by rw [hw0]; exact Nat.le_refl _
  have HW := hide hw0
  clear hw0
  go_enter Try.func9, Try.ntmps9
  go_wp2_with fail
  rw [← HW.out]
  clear HW
  refine (toIsW_any A0 n0 c0 x0 _ hn0 (HS0.out.below HB0.out)).mono ?_
  rintro e w1 ⟨gs0, rfl, hg1, hg2, hb, ho⟩
  have HOs0_1 := hide ho
  clear ho hg1 hg2
  have HB1 := hide (HB0.out.trans (hb.mono HB0.out.size))
  have hs1 : w0.heap.size ≤ w1.heap.size := hb.size
  clear hb
  go_wp2_with fail
  refine (toIsW_any A1 n1 c1 x1 _ hn1 (HS1.out.below HB1.out)).mono ?_
  rintro e w2 ⟨gs1, rfl, hg1, hg2, hb, ho⟩
  have HOs1_2 := hide ho
  clear ho hg1 hg2
  have HB2 := hide (HB1.out.trans (hb.mono HB1.out.size))
  have hs2 : w1.heap.size ≤ w2.heap.size := hb.size
  have HOs0_2 := hide (HOs0_1.out.below hb)
  clear HOs0_1
  clear hb
  go_wp2_with fail
  refine (specRanks_any _ n0 n0 x0 _ n1 n1 x1 _ hm0 HOs0_2.out.sl hm1 HOs1_2.out.sl).mono ?_
  rintro e w3 ⟨rfl, hb⟩
  have HB3 := hide (HB2.out.trans (hb.mono HB2.out.size))
  have hs3 : w2.heap.size ≤ w3.heap.size := hb.size
  have HOs0_3 := hide (HOs0_2.out.below hb)
  clear HOs0_2
  have HOs1_3 := hide (HOs1_2.out.below hb)
  clear HOs1_2
  clear hb
  clear HOs0_3
  clear HOs1_3
  go_wp2_with fail
  refine (toIsW_any A0 n0 c0 x0 _ hn0 (HS0.out.below HB3.out)).mono ?_
  rintro e w4 ⟨gx0_, rfl, hg1, hg2, hb, ho⟩
  have HOx0__4 := hide ho
  clear ho hg1 hg2
  have HB4 := hide (HB3.out.trans (hb.mono HB3.out.size))
  have hs4 : w3.heap.size ≤ w4.heap.size := hb.size
  clear hb
  go_wp2_with fail
  refine (toIsW_any A1 n1 c1 x1 _ hn1 (HS1.out.below HB4.out)).mono ?_
  rintro e w5 ⟨gx1_, rfl, hg1, hg2, hb, ho⟩
  have HOx1__5 := hide ho
  clear ho hg1 hg2
  have HB5 := hide (HB4.out.trans (hb.mono HB4.out.size))
  have hs5 : w4.heap.size ≤ w5.heap.size := hb.size
  have HOx0__5 := hide (HOx0__4.out.below hb)
  clear HOx0__4
  clear hb
  go_wp2_with fail
  refine (implRanks_any _ n0 n0 x0 _ n1 n1 x1 _ hm0 HOx0__5.out.sl hm1 HOx1__5.out.sl).mono ?_
  rintro e w6 ⟨rfl, hb⟩
  have HB6 := hide (HB5.out.trans (hb.mono HB5.out.size))
  have hs6 : w5.heap.size ≤ w6.heap.size := hb.size
  have HOx0__6 := hide (HOx0__5.out.below hb)
  clear HOx0__5
  have HOx1__6 := hide (HOx1__5.out.below hb)
  clear HOx1__5
  clear hb
  go_wp2_with fail
  refine (toIsW_any A0 n0 c0 x0 _ hn0 (HS0.out.below HB6.out)).mono ?_
  rintro e w7 ⟨gt, rfl, hg1, hg2, hb, ho⟩
  have HOt_7 := hide ho
  clear ho hg1 hg2
  have HB7 := hide (HB6.out.trans (hb.mono HB6.out.size))
  have hs7 : w6.heap.size ≤ w7.heap.size := hb.size
  have HOx0__7 := hide (HOx0__6.out.below hb)
  clear HOx0__6
  have HOx1__7 := hide (HOx1__6.out.below hb)
  clear HOx1__6
  clear hb
  go_wp2_with fail
  refine (eqIs_any _ _ n0 _ _ _ _ hm0 HOx0__7.out.sl HOt_7.out.sl).mono ?_
  rintro e w8 ⟨rfl, q, hq⟩
  have hb : Below w7.heap.size w7 w8 := by rw [hq]; exact bel_drewN (Below.refl _ _) _
  clear hq
  have HB8 := hide (HB7.out.trans (hb.mono HB7.out.size))
  have hs8 : w7.heap.size ≤ w8.heap.size := hb.size
  have HOx0__8 := hide (HOx0__7.out.below hb)
  clear HOx0__7
  have HOx1__8 := hide (HOx1__7.out.below hb)
  clear HOx1__7
  have HOt_8 := hide (HOt_7.out.below hb)
  clear HOt_7
  clear hb
  clear HOt_8
  go_wp2_with fail
  refine (toIsW_any A1 n1 c1 x1 _ hn1 (HS1.out.below HB8.out)).mono ?_
  rintro e w9 ⟨gt, rfl, hg1, hg2, hb, ho⟩
  have HOt_9 := hide ho
  clear ho hg1 hg2
  have HB9 := hide (HB8.out.trans (hb.mono HB8.out.size))
  have hs9 : w8.heap.size ≤ w9.heap.size := hb.size
  have HOx0__9 := hide (HOx0__8.out.below hb)
  clear HOx0__8
  have HOx1__9 := hide (HOx1__8.out.below hb)
  clear HOx1__8
  clear hb
  go_wp2_with fail
  refine (eqIs_any _ _ n1 _ _ _ _ hm1 HOx1__9.out.sl HOt_9.out.sl).mono ?_
  rintro e w10 ⟨rfl, q, hq⟩
  have hb : Below w9.heap.size w9 w10 := by rw [hq]; exact bel_drewN (Below.refl _ _) _
  clear hq
  have HB10 := hide (HB9.out.trans (hb.mono HB9.out.size))
  have hs10 : w9.heap.size ≤ w10.heap.size := hb.size
  have HOx0__10 := hide (HOx0__9.out.below hb)
  clear HOx0__9
  have HOx1__10 := hide (HOx1__9.out.below hb)
  clear HOx1__9
  have HOt_10 := hide (HOt_9.out.below hb)
  clear HOt_9
  clear hb
  clear HOt_10
  go_wp2_with fail
  go_ret
  exact ⟨rfl, HB10.out⟩
end Go.Proofs.Ytelcknddbikgaaa
