/- The law FnExactWorthNow, walked. -/
import Derived.Test.YtelcknddbikgaaaW7
import Derived.Test.YtelcknddbikgaaaMf
import Derived.Test.YtelcknddbikgaaaRow
import Derived.Test.YtelcknddbikgaaaSame
import Derived.Deep.RegionHeld3
namespace Go.Proofs.Ytelcknddbikgaaa
open Go.RowKit Go.Dues
set_option maxRecDepth 100000 in
set_option maxHeartbeats 8000000 in
theorem lawWorthNow_any (A0 : Option Addr) (n0 c0 : Nat) (x0 : Nat → Nat) (A1 : Option Addr) (n1 c1 : Nat) (x1 : Nat → Nat) (w : World) (hm0 : n0 ≤ maxLen) (hs0 : SL w A0 n0 (fun j => .float .f32 (x0 j))) (hm1 : n1 ≤ maxLen) (hs1 : SL w A1 n1 (fun j => .float .f32 (x1 j))) :
    Calls Try.prog 14 #[.slice A0 n0 c0, .slice A1 n1 c1] w fun e w' => e = .returned (.bool true) ∧ Below w.heap.size w w' := by
  have hwd := fun (w : World) (b : Nat) => run_widen_eq (P := Try.prog) w 45 49 b (by rw [Try.underlying45]; rfl) Try.underlying49
  unfold maxLen at hm0
  by_cases hbig0 : (1048576 : Int) < (n0 : Int)
  · clear hs0 hs1
    go_enter Try.func14, Try.ntmps14
    go_wp2
    go_ret
    exact ⟨rfl, Below.refl _ _⟩
  have hm0 : n0 ≤ maxLen := hm0
  have hn0 : n0 ≤ 1048576 := by omega
  unfold maxLen at hm1
  by_cases hbig1 : (1048576 : Int) < (n1 : Int)
  · clear hs0 hs1
    go_enter Try.func14, Try.ntmps14
    go_wp2
    go_ret
    exact ⟨rfl, Below.refl _ _⟩
  have hm1 : n1 ≤ maxLen := hm1
  have hn1 : n1 ≤ 1048576 := by omega
  have HS0 := hide hs0
  clear hs0
  have HS1 := hide hs1
  clear hs1
  obtain ⟨w0, hw0⟩ : ∃ u, u = w := ⟨_, rfl⟩
  have HB0 : Hid (Below w.heap.size w w0) := by rw [hw0]; exact (Below.refl w.heap.size w)
  have hs0 : w.heap.size ≤ w0.heap.size := HB0.out.size
  have HW := hide hw0
  clear hw0
  go_enter Try.func14, Try.ntmps14
  go_wp2_with fail
  rw [← HW.out]
  clear HW
  refine (toFlW_any A0 n0 c0 x0 _ hn0 (HS0.out.below HB0.out)).mono ?_
  rintro e w1 ⟨gs0_, rfl, hb, ho⟩
  have HN := hide ho
  clear ho
  have HB1 := hide (HB0.out.trans (hb.mono HB0.out.size))
  have hs1 : w0.heap.size ≤ w1.heap.size := hb.size
  clear hb
  have HOs0__1 := HN
  clear HN
  go_wp2_with fail
  refine (toFlW_any A1 n1 c1 x1 _ hn1 (HS1.out.below HB1.out)).mono ?_
  rintro e w2 ⟨gs1_, rfl, hb, ho⟩
  have HN := hide ho
  clear ho
  have HB2 := hide (HB1.out.trans (hb.mono HB1.out.size))
  have hs2 : w1.heap.size ≤ w2.heap.size := hb.size
  have HOs0__2 := hide (HOs0__1.out.below hb)
  clear HOs0__1
  clear hb
  have HOs1__2 := HN
  clear HN
  go_wp2_with fail
  refine (specWorthN_any _ n0 n0 x0 _ n1 n1 x1 w2 hm0 HOs0__2.out.sl hm1 HOs1__2.out.sl).mono ?_
  rintro e w3 ⟨W0, rfl, hr0, hb⟩
  have Qhr0 := hide hr0
  clear hr0
  have HB3 := hide (HB2.out.trans (hb.mono HB2.out.size))
  have hs3 : w2.heap.size ≤ w3.heap.size := hb.size
  have HOs0__3 := hide (HOs0__2.out.below hb)
  clear HOs0__2
  have HOs1__3 := hide (HOs1__2.out.below hb)
  clear HOs1__2
  clear hb
  have HRW0 := Qhr0
  clear Qhr0
  clear HOs0__3
  clear HOs1__3
  go_wp2_with fail
  refine (toFlW_any A0 n0 c0 x0 _ hn0 (HS0.out.below HB3.out)).mono ?_
  rintro e w4 ⟨gx0_, rfl, hb, ho⟩
  have HN := hide ho
  clear ho
  have HB4 := hide (HB3.out.trans (hb.mono HB3.out.size))
  have hs4 : w3.heap.size ≤ w4.heap.size := hb.size
  clear hb
  have HOx0__4 := HN
  clear HN
  go_wp2_with fail
  refine (toFlW_any A1 n1 c1 x1 _ hn1 (HS1.out.below HB4.out)).mono ?_
  rintro e w5 ⟨gx1_, rfl, hb, ho⟩
  have HN := hide ho
  clear ho
  have HB5 := hide (HB4.out.trans (hb.mono HB4.out.size))
  have hs5 : w4.heap.size ≤ w5.heap.size := hb.size
  have HOx0__5 := hide (HOx0__4.out.below hb)
  clear HOx0__4
  clear hb
  have HOx1__5 := HN
  clear HN
  go_wp2_with fail
  refine (implWorthN_any _ n0 n0 x0 _ n1 n1 x1 w5 hm0 HOx0__5.out.sl hm1 HOx1__5.out.sl).mono ?_
  rintro e w6 ⟨R0, rfl, hr0, hb⟩
  have Qhr0 := hide hr0
  clear hr0
  have HB6 := hide (HB5.out.trans (hb.mono HB5.out.size))
  have hs6 : w5.heap.size ≤ w6.heap.size := hb.size
  have HOx0__6 := hide (HOx0__5.out.below hb)
  clear HOx0__5
  have HOx1__6 := hide (HOx1__5.out.below hb)
  clear HOx1__5
  clear hb
  have HRR0 := Qhr0
  clear Qhr0
  go_wp2_with fail
  refine (sameFloat_any _ _ _ (wv_both (HRR0.out.trans HRW0.out.symm))).mono ?_
  rintro e w7 ⟨rfl, q, hq⟩
  have hb : Below w6.heap.size w6 w7 := by rw [hq]; first | exact bel_q (Below.refl _ _) _ | exact bel_q (bel_q (Below.refl _ _) _) _
  clear hq
  have HB7 := hide (HB6.out.trans (hb.mono HB6.out.size))
  have hs7 : w6.heap.size ≤ w7.heap.size := hb.size
  have HOx0__7 := hide (HOx0__6.out.below hb)
  clear HOx0__6
  have HOx1__7 := hide (HOx1__6.out.below hb)
  clear HOx1__6
  clear hb
  go_wp2_with fail
  refine (toFlW_any A0 n0 c0 x0 _ hn0 (HS0.out.below HB7.out)).mono ?_
  rintro e w8 ⟨gt, rfl, hb, ho⟩
  have HN := hide ho
  clear ho
  have HB8 := hide (HB7.out.trans (hb.mono HB7.out.size))
  have hs8 : w7.heap.size ≤ w8.heap.size := hb.size
  have HOx0__8 := hide (HOx0__7.out.below hb)
  clear HOx0__7
  have HOx1__8 := hide (HOx1__7.out.below hb)
  clear HOx1__7
  clear hb
  have HOt_8 := HN
  clear HN
  go_wp2_with fail
  refine (eqFl_any _ _ n0 n0 n0 x0 x0 _ hm0 HOx0__8.out.sl HOt_8.out.sl (fun _ _ => FS.refl _ _)).mono ?_
  rintro e w9 ⟨rfl, q, hq⟩
  have hb : Below w8.heap.size w8 w9 := by rw [hq]; first | exact bel_q (Below.refl _ _) _ | exact bel_q (bel_q (Below.refl _ _) _) _
  clear hq
  have HB9 := hide (HB8.out.trans (hb.mono HB8.out.size))
  have hs9 : w8.heap.size ≤ w9.heap.size := hb.size
  have HOx0__9 := hide (HOx0__8.out.below hb)
  clear HOx0__8
  have HOx1__9 := hide (HOx1__8.out.below hb)
  clear HOx1__8
  have HOt_9 := hide (HOt_8.out.below hb)
  clear HOt_8
  clear hb
  clear HOt_9
  go_wp2_with fail
  refine (toFlW_any A1 n1 c1 x1 _ hn1 (HS1.out.below HB9.out)).mono ?_
  rintro e w10 ⟨gt, rfl, hb, ho⟩
  have HN := hide ho
  clear ho
  have HB10 := hide (HB9.out.trans (hb.mono HB9.out.size))
  have hs10 : w9.heap.size ≤ w10.heap.size := hb.size
  have HOx0__10 := hide (HOx0__9.out.below hb)
  clear HOx0__9
  have HOx1__10 := hide (HOx1__9.out.below hb)
  clear HOx1__9
  clear hb
  have HOt_10 := HN
  clear HN
  go_wp2_with fail
  refine (eqFl_any _ _ n1 n1 n1 x1 x1 _ hm1 HOx1__10.out.sl HOt_10.out.sl (fun _ _ => FS.refl _ _)).mono ?_
  rintro e w11 ⟨rfl, q, hq⟩
  have hb : Below w10.heap.size w10 w11 := by rw [hq]; first | exact bel_q (Below.refl _ _) _ | exact bel_q (bel_q (Below.refl _ _) _) _
  clear hq
  have HB11 := hide (HB10.out.trans (hb.mono HB10.out.size))
  have hs11 : w10.heap.size ≤ w11.heap.size := hb.size
  have HOx0__11 := hide (HOx0__10.out.below hb)
  clear HOx0__10
  have HOx1__11 := hide (HOx1__10.out.below hb)
  clear HOx1__10
  have HOt_11 := hide (HOt_10.out.below hb)
  clear HOt_10
  clear hb
  clear HOt_11
  go_wp2_with fail
  go_ret
  exact ⟨rfl, HB11.out⟩
end Go.Proofs.Ytelcknddbikgaaa
