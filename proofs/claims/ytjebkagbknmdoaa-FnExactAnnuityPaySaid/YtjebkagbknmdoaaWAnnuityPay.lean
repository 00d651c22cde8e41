/- The law FnExactAnnuityPay, walked. -/
import Derived.Test.YtjebkagbknmdoaaAp8
import Derived.Test.YtjebkagbknmdoaaPl
import Derived.Test.YtjebkagbknmdoaaMf
import Derived.Test.YtjebkagbknmdoaaRow
import Derived.Deep.RegionHeld3
namespace Go.Proofs.Ytjebkagbknmdoaa
open Go.RowKit Go.Dues
set_option maxRecDepth 100000 in
set_option maxHeartbeats 8000000 in
theorem lawAnnuityPay_any (v0 : Int) (A1 : Option Addr) (n1 c1 : Nat) (x1 : Nat → Nat) (v2 : Nat) (w : World) (hm1 : n1 ≤ maxLen) (hs1 : SL w A1 n1 (fun j => .float .f32 (x1 j))) (wv0 : -9223372036854775808 ≤ v0 ∧ v0 ≤ 9223372036854775807) (wv2 : v2 < 4294967296) :
    Calls Try.prog 9 #[.int .i64 v0, .slice A1 n1 c1, .float .f32 v2] w fun e w' => e = .returned (.bool true) ∧ Below w.heap.size w w' := by
  skip
  have WV0 := hide wv0
  clear wv0
  have WV2 := hide wv2
  clear wv2
  unfold maxLen at hm1
  by_cases hbig1 : (1048576 : Int) < (n1 : Int)
  · clear hs1
    go_enter Try.func9, Try.ntmps9
    go_wp2
    go_ret
    exact ⟨rfl, Below.refl _ _⟩
  have hm1 : n1 ≤ maxLen := hm1
  have hn1 : n1 ≤ 1048576 := by omega
  have HS1 := hide hs1
  clear hs1
  obtain ⟨w0, hw0⟩ : ∃ u, u = w := ⟨_, rfl⟩
  have HB0 : Hid (Below w.heap.size w w0) := by rw [hw0]; exact (Below.refl w.heap.size w)
  have hs0 : w.heap.size ≤ w0.heap.size := HB0.out.size
  have HW := hide hw0
  clear hw0
  go_enter Try.func9, Try.ntmps9
  obtain ⟨VI, hVI⟩ : ∃ q, ifV (apP x1 n1 v2 v0) (apV x1 n1 v2 v0) = q := ⟨_, rfl⟩
  obtain ⟨TB, hTB⟩ : ∃ q, tru (apP x1 n1 v2 v0) = q := ⟨_, rfl⟩
  have HVI := hide hVI
  clear hVI
  have HTB := hide hTB
  clear hTB
  go_wp2_with fail
  rw [← HW.out]
  clear HW
  refine (toFlW_any A1 n1 c1 x1 _ hn1 (HS1.out.below HB0.out)).mono ?_
  rintro e w1 ⟨gs1_, rfl, hb, ho⟩
  have HN := hide ho
  clear ho
  have HB1 := hide (HB0.out.trans (hb.mono HB0.out.size))
  have hs1 : w0.heap.size ≤ w1.heap.size := hb.size
  clear hb
  have HOs1__1 := HN
  clear HN
  go_wp2_with fail
  refine (specAnnPay_any v0 _ n1 n1 x1 v2 w1 hm1 HOs1__1.out.sl).mono ?_
  rintro e w2 ⟨rfl, hb⟩
  (try rw [HVI.out])
  (try rw [HTB.out])
  have HB2 := hide (HB1.out.trans (hb.mono HB1.out.size))
  have hs2 : w1.heap.size ≤ w2.heap.size := hb.size
  have HOs1__2 := hide (HOs1__1.out.below hb)
  clear HOs1__1
  clear hb
  clear HOs1__2
  go_wp2_with fail
  refine (toFlW_any A1 n1 c1 x1 _ hn1 (HS1.out.below HB2.out)).mono ?_
  rintro e w3 ⟨gx1_, rfl, hb, ho⟩
  have HN := hide ho
  clear ho
  have HB3 := hide (HB2.out.trans (hb.mono HB2.out.size))
  have hs3 : w2.heap.size ≤ w3.heap.size := hb.size
  clear hb
  have HOx1__3 := HN
  clear HN
  go_wp2_with fail
  refine (implAnnPay_any v0 _ n1 n1 x1 v2 w3 hm1 HOx1__3.out.sl).mono ?_
  rintro e w4 ⟨rfl, hb⟩
  (try rw [HVI.out])
  (try rw [HTB.out])
  have HB4 := hide (HB3.out.trans (hb.mono HB3.out.size))
  have hs4 : w3.heap.size ≤ w4.heap.size := hb.size
  have HOx1__4 := hide (HOx1__3.out.below hb)
  clear HOx1__3
  clear hb
  go_wp2_with fail
  refine (toFlW_any A1 n1 c1 x1 _ hn1 (HS1.out.below HB4.out)).mono ?_
  rintro e w5 ⟨gt, rfl, hb, ho⟩
  have HN := hide ho
  clear ho
  have HB5 := hide (HB4.out.trans (hb.mono HB4.out.size))
  have hs5 : w4.heap.size ≤ w5.heap.size := hb.size
  have HOx1__5 := hide (HOx1__4.out.below hb)
  clear HOx1__4
  clear hb
  have HOt_5 := HN
  clear HN
  go_wp2_with fail
  refine (eqFl_any _ _ n1 n1 n1 x1 x1 _ hm1 HOx1__5.out.sl HOt_5.out.sl (fun _ _ => FS.refl _ _)).mono ?_
  rintro e w6 ⟨rfl, q, hq⟩
  have hb : Below w5.heap.size w5 w6 := by rw [hq]; first | exact bel_q (Below.refl _ _) _ | exact bel_q (bel_q (Below.refl _ _) _) _
  clear hq
  have HB6 := hide (HB5.out.trans (hb.mono HB5.out.size))
  have hs6 : w5.heap.size ≤ w6.heap.size := hb.size
  have HOx1__6 := hide (HOx1__5.out.below hb)
  clear HOx1__5
  have HOt_6 := hide (HOt_5.out.below hb)
  clear HOt_5
  clear hb
  clear HOt_6
  go_wp2_with fail
  go_ret
  exact ⟨rfl, HB6.out⟩
end Go.Proofs.Ytjebkagbknmdoaa
