/- The law FnExactSafeDraw, walked. -/
import Derived.Test.YtjefpcmegkeceaaSfi
import Derived.Test.YtjefpcmegkeceaaRow
import Derived.Test.YtjefpcmegkeceaaLs
namespace Go.Proofs.Ytjefpcmegkeceaa
open Go.RowKit Go.Dues
set_option maxRecDepth 100000 in
set_option maxHeartbeats 4000000 in
theorem lawSafeDraw_any (v0 : Int) (A1 : Option Addr) (n1 c1 : Nat) (x1 : Nat → Int) (w : World) (hm1 : n1 ≤ maxLen) (hs1 : SL w A1 n1 (fun j => .int .i64 (x1 j))) (wv0 : -9223372036854775808 ≤ v0 ∧ v0 ≤ 9223372036854775807) :
    Calls Try.prog 13 #[.int .i64 v0, .slice A1 n1 c1] w fun e w' => e = .returned (.bool true) ∧ Below w.heap.size w w' := by
  have WV0 := hide wv0
  clear wv0
  unfold maxLen at hm1
  by_cases hbig1 : (1048576 : Int) < (n1 : Int)
  · clear hs1
    go_enter Try.func13, Try.ntmps13
    go_wp2
    go_ret
    exact ⟨rfl, Below.refl _ _⟩
  have hm1 : n1 ≤ maxLen := hm1
  have hn1 : n1 ≤ 1048576 := by omega
  have HS1 := hide hs1
  clear hs1
  obtain ⟨w0, hw0⟩ : ∃ u, u = w := ⟨_, rfl⟩
  have HB0 : Hid (Below w.heap.size w w0) := by rw [hw0]; exact Below.refl _ _
  have hs0 : w.heap.size ≤ w0.heap.size := by rw [hw0]; exact Nat.le_refl _
  have HW := hide hw0
  clear hw0
  go_enter Try.func13, Try.ntmps13
  go_wp2_with fail
  rw [← HW.out]
  clear HW
  refine (toIsW_any A1 n1 c1 x1 _ hn1 (HS1.out.below HB0.out)).mono ?_
  rintro e w1 ⟨gs1, rfl, hg1, hg2, hb, ho⟩
  have HOs1_1 := hide ho
  clear ho hg1 hg2
  have HB1 := hide (HB0.out.trans (hb.mono HB0.out.size))
  have hs1 : w0.heap.size ≤ w1.heap.size := hb.size
  clear hb
  go_wp2_with fail
  refine (specSafeDraw_any v0 _ n1 n1 x1 _ hm1 HOs1_1.out.sl).mono ?_
  rintro e w2 ⟨rfl, hb⟩
  have HB2 := hide (HB1.out.trans (hb.mono HB1.out.size))
  have hs2 : w1.heap.size ≤ w2.heap.size := hb.size
  have HOs1_2 := hide (HOs1_1.out.below hb)
  clear HOs1_1
  clear hb
  clear HOs1_2
  go_wp2_with fail
  refine (toIsW_any A1 n1 c1 x1 _ hn1 (HS1.out.below HB2.out)).mono ?_
  rintro e w3 ⟨gx1_, rfl, hg1, hg2, hb, ho⟩
  have HOx1__3 := hide ho
  clear ho hg1 hg2
  have HB3 := hide (HB2.out.trans (hb.mono HB2.out.size))
  have hs3 : w2.heap.size ≤ w3.heap.size := hb.size
  clear hb
  go_wp2_with fail
  refine (implSafeDraw_any v0 _ n1 n1 x1 _ hm1 HOx1__3.out.sl).mono ?_
  rintro e w4 ⟨rfl, hb⟩
  have HB4 := hide (HB3.out.trans (hb.mono HB3.out.size))
  have hs4 : w3.heap.size ≤ w4.heap.size := hb.size
  have HOx1__4 := hide (HOx1__3.out.below hb)
  clear HOx1__3
  clear hb
  go_wp2_with fail
  refine (toIsW_any A1 n1 c1 x1 _ hn1 (HS1.out.below HB4.out)).mono ?_
  rintro e w5 ⟨gt, rfl, hg1, hg2, hb, ho⟩
  have HOt_5 := hide ho
  clear ho hg1 hg2
  have HB5 := hide (HB4.out.trans (hb.mono HB4.out.size))
  have hs5 : w4.heap.size ≤ w5.heap.size := hb.size
  have HOx1__5 := hide (HOx1__4.out.below hb)
  clear HOx1__4
  clear hb
  go_wp2_with fail
  refine (eqIs_any _ _ n1 _ _ _ _ hm1 HOx1__5.out.sl HOt_5.out.sl).mono ?_
  rintro e w6 ⟨rfl, q, hq⟩
  have hb : Below w5.heap.size w5 w6 := by rw [hq]; exact bel_drewN (Below.refl _ _) _
  clear hq
  have HB6 := hide (HB5.out.trans (hb.mono HB5.out.size))
  have hs6 : w5.heap.size ≤ w6.heap.size := hb.size
  have HOx1__6 := hide (HOx1__5.out.below hb)
  clear HOx1__5
  have HOt_6 := hide (HOt_5.out.below hb)
  clear HOt_5
  clear hb
  clear HOt_6
  go_wp2_with fail
  go_ret
  exact ⟨rfl, HB6.out⟩
end Go.Proofs.Ytjefpcmegkeceaa
