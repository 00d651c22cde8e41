/- The law FnExactAreRules, walked. -/
import Derived.Test.YtmblppinfbbndaaRv
import Derived.Test.YtmblppinfbbndaaRow
namespace Go.Proofs.Ytmblppinfbbndaa
open Go.RowKit Go.Dues
set_option maxRecDepth 100000 in
set_option maxHeartbeats 4000000 in
theorem lawAreRules_any (A0 : Option Addr) (n0 c0 : Nat) (x0 : Nat → RV) (w : World) (hm0 : n0 ≤ maxLen) (hs0 : RS w A0 n0 x0) (hv0 : ∀ j, j < n0 → (x0 j).ok) :
    Calls Try.prog 4 #[.slice A0 n0 c0] w fun e w' => e = .returned (.bool true) ∧ Below w.heap.size w w' := by
  have HS0 := hide hs0
  clear hs0
  have HVM0 := hide (show ∀ j, j < n0 → (x0 j).n ≤ maxLen from fun j hj => (hv0 j hj).2.2.2.2.1)
  have HV0 := hide hv0
  clear hv0
  obtain ⟨w0, hw0⟩ : ∃ u, u = w := ⟨_, rfl⟩
  have HB0 : Hid (Below w.heap.size w w0) := by rw [hw0]; exact Below.refl _ _
  have hs0 : w.heap.size ≤ w0.heap.size := by rw [hw0]; exact Nat.le_refl _
  have HW := hide hw0
  clear hw0
  go_enter Try.func4, Try.ntmps4
  go_wp2_with fail
  rw [← HW.out]
  clear HW
  refine (szRuleS_any A0 n0 c0 x0 1048576 _ hm0 HVM0.out (HS0.out.below HB0.out) (by omega) (by omega)).mono ?_
  rintro e w1 ⟨q0, rfl, hq0, hb⟩
  have HB1 := hide (HB0.out.trans (hb.mono HB0.out.size))
  have hs1 : w0.heap.size ≤ w1.heap.size := hb.size
  clear hb
  rcases hq0 with ⟨hg0, hl0⟩ | rfl
  rotate_left
  · go_wp2_with fail
    go_ret
    exact ⟨rfl, HB1.out⟩
  have hn0 : n0 ≤ 1048576 := by omega
  have hr0 : rsum x0 n0 ≤ 1048576 := by omega
  have HVN0 := hide (show ∀ j, j < n0 → (x0 j).n ≤ 1048576 from fun j hj => Nat.le_trans (rsum_mono x0 j n0 hj) hr0)
  have hh0 : q0 ≤ 1048576 := by omega
  have hz0 : ¬ q0 < 0 := by omega
  have HL0 := hide hl0
  clear hl0
  go_wp2_with fail
  refine (toRuleS_any A0 n0 c0 x0 _ hn0 HVN0.out (HS0.out.below HB1.out)).mono ?_
  rintro e w2 ⟨gs0, rfl, hg1, hg2, hb, ho⟩
  have HOs0_2 := hide ho
  clear ho hg1 hg2
  have HB2 := hide (HB1.out.trans (hb.mono HB1.out.size))
  have hs2 : w1.heap.size ≤ w2.heap.size := hb.size
  clear hb
  go_wp2_with fail
  refine (specAreRules_any _ n0 n0 x0 _ hm0 HVM0.out HOs0_2.out.rs).mono ?_
  rintro e w3 ⟨rfl, hb⟩
  have HB3 := hide (HB2.out.trans (hb.mono HB2.out.size))
  have hs3 : w2.heap.size ≤ w3.heap.size := hb.size
  have HOs0_3 := hide (HOs0_2.out.below hb)
  clear HOs0_2
  clear hb
  clear HOs0_3
  go_wp2_with fail
  refine (toRuleS_any A0 n0 c0 x0 _ hn0 HVN0.out (HS0.out.below HB3.out)).mono ?_
  rintro e w4 ⟨gx0_, rfl, hg1, hg2, hb, ho⟩
  have HOx0__4 := hide ho
  clear ho hg1 hg2
  have HB4 := hide (HB3.out.trans (hb.mono HB3.out.size))
  have hs4 : w3.heap.size ≤ w4.heap.size := hb.size
  clear hb
  go_wp2_with fail
  refine (implAreRules_any _ n0 n0 x0 _ hm0 HVM0.out HOx0__4.out.rs).mono ?_
  rintro e w5 ⟨rfl, hb⟩
  have HB5 := hide (HB4.out.trans (hb.mono HB4.out.size))
  have hs5 : w4.heap.size ≤ w5.heap.size := hb.size
  have HOx0__5 := hide (HOx0__4.out.below hb)
  clear HOx0__4
  clear hb
  go_wp2_with fail
  refine (toRuleS_any A0 n0 c0 x0 _ hn0 HVN0.out (HS0.out.below HB5.out)).mono ?_
  rintro e w6 ⟨gt, rfl, hg1, hg2, hb, ho⟩
  have HOt_6 := hide ho
  clear ho hg1 hg2
  have HB6 := hide (HB5.out.trans (hb.mono HB5.out.size))
  have hs6 : w5.heap.size ≤ w6.heap.size := hb.size
  have HOx0__6 := hide (HOx0__5.out.below hb)
  clear HOx0__5
  clear hb
  go_wp2_with fail
  refine (eqRuleS_any _ _ n0 _ _ x0 _ hm0 HVM0.out HOx0__6.out.rs HOt_6.out.rs).mono ?_
  rintro e w7 ⟨rfl, hb⟩
  have HB7 := hide (HB6.out.trans (hb.mono HB6.out.size))
  have hs7 : w6.heap.size ≤ w7.heap.size := hb.size
  have HOx0__7 := hide (HOx0__6.out.below hb)
  clear HOx0__6
  have HOt_7 := hide (HOt_6.out.below hb)
  clear HOt_6
  clear hb
  clear HOt_7
  go_wp2_with fail
  go_ret
  exact ⟨rfl, HB7.out⟩
end Go.Proofs.Ytmblppinfbbndaa
