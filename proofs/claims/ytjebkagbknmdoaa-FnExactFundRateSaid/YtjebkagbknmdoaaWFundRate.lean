/- The law FnExactFundRate, walked. -/
import Derived.Test.YtjebkagbknmdoaaFm8
import Derived.Test.YtjebkagbknmdoaaMp8
import Derived.Test.YtjebkagbknmdoaaRow
import Derived.Test.YtjebkagbknmdoaaSame
import Derived.Deep.RegionHeld3
namespace Go.Proofs.Ytjebkagbknmdoaa
open Go.RowKit Go.Dues
set_option maxRecDepth 100000 in
set_option maxHeartbeats 8000000 in
theorem lawFundRate_any (v0 : Nat) (A1 : Option Addr) (n1 c1 : Nat) (x1 : Nat → Nat) (A2 : Option Addr) (n2 c2 : Nat) (x2 : Nat → Nat) (A3 : Option Addr) (n3 c3 : Nat) (x3 : Nat → Nat) (v4 : Int) (w : World) (hm1 : n1 ≤ maxLen) (hs1 : SL w A1 n1 (fun j => .float .f32 (x1 j))) (wx1 : ∀ j, j < n1 → (Lit.float .f32 (x1 j)).wf = true) (hm2 : n2 ≤ maxLen) (hs2 : SL w A2 n2 (fun j => .float .f32 (x2 j))) (wx2 : ∀ j, j < n2 → (Lit.float .f32 (x2 j)).wf = true) (hm3 : n3 ≤ maxLen) (hs3 : SL w A3 n3 (fun j => .float .f32 (x3 j))) (wx3 : ∀ j, j < n3 → (Lit.float .f32 (x3 j)).wf = true) (wv0 : v0 < 4294967296) (wv4 : -9223372036854775808 ≤ v4 ∧ v4 ≤ 9223372036854775807) :
    Calls Try.prog 7 #[.float .f32 v0, .slice A1 n1 c1, .slice A2 n2 c2, .slice A3 n3 c3, .int .i64 v4] w fun e w' => e = .returned (.bool true) ∧ Below w.heap.size w w' := by
  have hwd := fun (w : World) (b : Nat) => run_widen_eq (P := Try.prog) w 62 67 b (by rw [Try.underlying62]; rfl) Try.underlying67
  have WV0 := hide wv0
  clear wv0
  have WV4 := hide wv4
  clear wv4
  unfold maxLen at hm1
  by_cases hbig1 : (1048576 : Int) < (n1 : Int)
  · clear hs1 wx1 hs2 wx2 hs3 wx3
    go_enter Try.func7, Try.ntmps7
    go_wp2
    go_ret
    exact ⟨rfl, Below.refl _ _⟩
  have hm1 : n1 ≤ maxLen := hm1
  have hn1 : n1 ≤ 1048576 := by omega
  unfold maxLen at hm2
  by_cases hbig2 : (1048576 : Int) < (n2 : Int)
  · clear hs1 wx1 hs2 wx2 hs3 wx3
    go_enter Try.func7, Try.ntmps7
    go_wp2
    go_ret
    exact ⟨rfl, Below.refl _ _⟩
  have hm2 : n2 ≤ maxLen := hm2
  have hn2 : n2 ≤ 1048576 := by omega
  unfold maxLen at hm3
  by_cases hbig3 : (1048576 : Int) < (n3 : Int)
  · clear hs1 wx1 hs2 wx2 hs3 wx3
    go_enter Try.func7, Try.ntmps7
    go_wp2
    go_ret
    exact ⟨rfl, Below.refl _ _⟩
  have hm3 : n3 ≤ maxLen := hm3
  have hn3 : n3 ≤ 1048576 := by omega
  have HS1 := hide hs1
  clear hs1
  have HS2 := hide hs2
  clear hs2
  have HS3 := hide hs3
  clear hs3
  have WX1 := hide wx1
  clear wx1
  have WX2 := hide wx2
  clear wx2
  have WX3 := hide wx3
  clear wx3
  obtain ⟨w0, hw0⟩ : ∃ u, u = w := ⟨_, rfl⟩
  have HB0 : Hid (Below w.heap.size w w0) := by rw [hw0]; exact (Below.refl w.heap.size w)
  have hs0 : w.heap.size ≤ w0.heap.size := HB0.out.size
  have HW := hide hw0
  clear hw0
  go_enter Try.func7, Try.ntmps7
  obtain ⟨VF, hVF⟩ : ∃ q, ifF (frP v0 x1 n1 x2 n2 x3 n3 v4) (frV v0 x1 x2 x3 n1 v4) = q := ⟨_, rfl⟩
  obtain ⟨TB, hTB⟩ : ∃ q, tru (frP v0 x1 n1 x2 n2 x3 n3 v4) = q := ⟨_, rfl⟩
  have HVF := hide hVF
  clear hVF
  have HTB := hide hTB
  clear hTB
  go_wp2_with fail
  rw [← HW.out]
  clear HW
  refine (toFlW_any A1 n1 c1 x1 _ hn1 (HS1.out.below HB0.out)).mono ?_
  rintro e w1 ⟨gs1_, rfl, hb, ho⟩
  have HN := hide ho
  clear ho
  have HB1 := hide (HB0.out.trans (hb.mono HB0.out.size))
  have hs1 : w0.heap.size ≤ w1.heap.size := hb.size
  clear hb
  have HOs1__1 := HN
  clear HN
  go_wp2_with fail
  refine (toFlW_any A2 n2 c2 x2 _ hn2 (HS2.out.below HB1.out)).mono ?_
  rintro e w2 ⟨gs2_, rfl, hb, ho⟩
  have HN := hide ho
  clear ho
  have HB2 := hide (HB1.out.trans (hb.mono HB1.out.size))
  have hs2 : w1.heap.size ≤ w2.heap.size := hb.size
  have HOs1__2 := hide (HOs1__1.out.below hb)
  clear HOs1__1
  clear hb
  have HOs2__2 := HN
  clear HN
  go_wp2_with fail
  refine (toFlW_any A3 n3 c3 x3 _ hn3 (HS3.out.below HB2.out)).mono ?_
  rintro e w3 ⟨gs3_, rfl, hb, ho⟩
  have HN := hide ho
  clear ho
  have HB3 := hide (HB2.out.trans (hb.mono HB2.out.size))
  have hs3 : w2.heap.size ≤ w3.heap.size := hb.size
  have HOs1__3 := hide (HOs1__2.out.below hb)
  clear HOs1__2
  have HOs2__3 := hide (HOs2__2.out.below hb)
  clear HOs2__2
  clear hb
  have HOs3__3 := HN
  clear HN
  go_wp2_with fail
  refine (specFundRate_any v0 _ n1 n1 x1 _ n2 n2 x2 _ n3 n3 x3 v4 w3 hn1 HOs1__3.out.sl WX1.out hn2 HOs2__3.out.sl WX2.out hn3 HOs3__3.out.sl WX3.out).mono ?_
  rintro e w4 ⟨W0, rfl, hr0, hb⟩
  (try rw [HVF.out])
  (try rw [HTB.out])
  (try rw [HVF.out] at hr0)
  (try rw [HTB.out] at hr0)
  have Qhr0 := hide hr0
  clear hr0
  have HB4 := hide (HB3.out.trans (hb.mono HB3.out.size))
  have hs4 : w3.heap.size ≤ w4.heap.size := hb.size
  have HOs1__4 := hide (HOs1__3.out.below hb)
  clear HOs1__3
  have HOs2__4 := hide (HOs2__3.out.below hb)
  clear HOs2__3
  have HOs3__4 := hide (HOs3__3.out.below hb)
  clear HOs3__3
  clear hb
  have HRW0 := Qhr0
  clear Qhr0
  clear HOs1__4
  clear HOs2__4
  clear HOs3__4
  go_wp2_with fail
  refine (toFlW_any A1 n1 c1 x1 _ hn1 (HS1.out.below HB4.out)).mono ?_
  rintro e w5 ⟨gx1_, rfl, hb, ho⟩
  have HN := hide ho
  clear ho
  have HB5 := hide (HB4.out.trans (hb.mono HB4.out.size))
  have hs5 : w4.heap.size ≤ w5.heap.size := hb.size
  clear hb
  have HOx1__5 := HN
  clear HN
  go_wp2_with fail
  refine (toFlW_any A2 n2 c2 x2 _ hn2 (HS2.out.below HB5.out)).mono ?_
  rintro e w6 ⟨gx2_, rfl, hb, ho⟩
  have HN := hide ho
  clear ho
  have HB6 := hide (HB5.out.trans (hb.mono HB5.out.size))
  have hs6 : w5.heap.size ≤ w6.heap.size := hb.size
  have HOx1__6 := hide (HOx1__5.out.below hb)
  clear HOx1__5
  clear hb
  have HOx2__6 := HN
  clear HN
  go_wp2_with fail
  refine (toFlW_any A3 n3 c3 x3 _ hn3 (HS3.out.below HB6.out)).mono ?_
  rintro e w7 ⟨gx3_, rfl, hb, ho⟩
  have HN := hide ho
  clear ho
  have HB7 := hide (HB6.out.trans (hb.mono HB6.out.size))
  have hs7 : w6.heap.size ≤ w7.heap.size := hb.size
  have HOx1__7 := hide (HOx1__6.out.below hb)
  clear HOx1__6
  have HOx2__7 := hide (HOx2__6.out.below hb)
  clear HOx2__6
  clear hb
  have HOx3__7 := HN
  clear HN
  go_wp2_with fail
  refine (implFundRate_any v0 _ n1 n1 x1 _ n2 n2 x2 _ n3 n3 x3 v4 w7 hn1 HOx1__7.out.sl WX1.out hn2 HOx2__7.out.sl WX2.out hn3 HOx3__7.out.sl WX3.out).mono ?_
  rintro e w8 ⟨R0, rfl, hr0, hb⟩
  (try rw [HVF.out])
  (try rw [HTB.out])
  (try rw [HVF.out] at hr0)
  (try rw [HTB.out] at hr0)
  have Qhr0 := hide hr0
  clear hr0
  have HB8 := hide (HB7.out.trans (hb.mono HB7.out.size))
  have hs8 : w7.heap.size ≤ w8.heap.size := hb.size
  have HOx1__8 := hide (HOx1__7.out.below hb)
  clear HOx1__7
  have HOx2__8 := hide (HOx2__7.out.below hb)
  clear HOx2__7
  have HOx3__8 := hide (HOx3__7.out.below hb)
  clear HOx3__7
  clear hb
  have HRR0 := Qhr0
  clear Qhr0
  go_wp2_with fail
  refine (sameFloat_any _ _ _ (wv_both (HRR0.out.trans HRW0.out.symm))).mono ?_
  rintro e w9 ⟨rfl, q, hq⟩
  have hb : Below w8.heap.size w8 w9 := by rw [hq]; first | exact bel_q (Below.refl _ _) _ | exact bel_q (bel_q (Below.refl _ _) _) _
  clear hq
  have HB9 := hide (HB8.out.trans (hb.mono HB8.out.size))
  have hs9 : w8.heap.size ≤ w9.heap.size := hb.size
  have HOx1__9 := hide (HOx1__8.out.below hb)
  clear HOx1__8
  have HOx2__9 := hide (HOx2__8.out.below hb)
  clear HOx2__8
  have HOx3__9 := hide (HOx3__8.out.below hb)
  clear HOx3__8
  clear hb
  go_wp2_with fail
  refine (toFlW_any A1 n1 c1 x1 _ hn1 (HS1.out.below HB9.out)).mono ?_
  rintro e w10 ⟨gt, rfl, hb, ho⟩
  have HN := hide ho
  clear ho
  have HB10 := hide (HB9.out.trans (hb.mono HB9.out.size))
  have hs10 : w9.heap.size ≤ w10.heap.size := hb.size
  have HOx1__10 := hide (HOx1__9.out.below hb)
  clear HOx1__9
  have HOx2__10 := hide (HOx2__9.out.below hb)
  clear HOx2__9
  have HOx3__10 := hide (HOx3__9.out.below hb)
  clear HOx3__9
  clear hb
  have HOt_10 := HN
  clear HN
  go_wp2_with fail
  refine (eqFl_any _ _ n1 n1 n1 x1 x1 _ hm1 HOx1__10.out.sl HOt_10.out.sl (fun _ _ => FS.refl _ _)).mono ?_
  rintro e w11 ⟨rfl, q, hq⟩
  have hb : Below w10.heap.size w10 w11 := by rw [hq]; first | exact bel_q (Below.refl _ _) _ | exact bel_q (bel_q (Below.refl _ _) _) _
  clear hq
  have HB11 := hide (HB10.out.trans (hb.mono HB10.out.size))
  have hs11 : w10.heap.size ≤ w11.heap.size := hb.size
  have HOx1__11 := hide (HOx1__10.out.below hb)
  clear HOx1__10
  have HOx2__11 := hide (HOx2__10.out.below hb)
  clear HOx2__10
  have HOx3__11 := hide (HOx3__10.out.below hb)
  clear HOx3__10
  have HOt_11 := hide (HOt_10.out.below hb)
  clear HOt_10
  clear hb
  clear HOt_11
  go_wp2_with fail
  refine (toFlW_any A2 n2 c2 x2 _ hn2 (HS2.out.below HB11.out)).mono ?_
  rintro e w12 ⟨gt, rfl, hb, ho⟩
  have HN := hide ho
  clear ho
  have HB12 := hide (HB11.out.trans (hb.mono HB11.out.size))
  have hs12 : w11.heap.size ≤ w12.heap.size := hb.size
  have HOx1__12 := hide (HOx1__11.out.below hb)
  clear HOx1__11
  have HOx2__12 := hide (HOx2__11.out.below hb)
  clear HOx2__11
  have HOx3__12 := hide (HOx3__11.out.below hb)
  clear HOx3__11
  clear hb
  have HOt_12 := HN
  clear HN
  go_wp2_with fail
  refine (eqFl_any _ _ n2 n2 n2 x2 x2 _ hm2 HOx2__12.out.sl HOt_12.out.sl (fun _ _ => FS.refl _ _)).mono ?_
  rintro e w13 ⟨rfl, q, hq⟩
  have hb : Below w12.heap.size w12 w13 := by rw [hq]; first | exact bel_q (Below.refl _ _) _ | exact bel_q (bel_q (Below.refl _ _) _) _
  clear hq
  have HB13 := hide (HB12.out.trans (hb.mono HB12.out.size))
  have hs13 : w12.heap.size ≤ w13.heap.size := hb.size
  have HOx1__13 := hide (HOx1__12.out.below hb)
  clear HOx1__12
  have HOx2__13 := hide (HOx2__12.out.below hb)
  clear HOx2__12
  have HOx3__13 := hide (HOx3__12.out.below hb)
  clear HOx3__12
  have HOt_13 := hide (HOt_12.out.below hb)
  clear HOt_12
  clear hb
  clear HOt_13
  go_wp2_with fail
  refine (toFlW_any A3 n3 c3 x3 _ hn3 (HS3.out.below HB13.out)).mono ?_
  rintro e w14 ⟨gt, rfl, hb, ho⟩
  have HN := hide ho
  clear ho
  have HB14 := hide (HB13.out.trans (hb.mono HB13.out.size))
  have hs14 : w13.heap.size ≤ w14.heap.size := hb.size
  have HOx1__14 := hide (HOx1__13.out.below hb)
  clear HOx1__13
  have HOx2__14 := hide (HOx2__13.out.below hb)
  clear HOx2__13
  have HOx3__14 := hide (HOx3__13.out.below hb)
  clear HOx3__13
  clear hb
  have HOt_14 := HN
  clear HN
  go_wp2_with fail
  refine (eqFl_any _ _ n3 n3 n3 x3 x3 _ hm3 HOx3__14.out.sl HOt_14.out.sl (fun _ _ => FS.refl _ _)).mono ?_
  rintro e w15 ⟨rfl, q, hq⟩
  have hb : Below w14.heap.size w14 w15 := by rw [hq]; first | exact bel_q (Below.refl _ _) _ | exact bel_q (bel_q (Below.refl _ _) _) _
  clear hq
  have HB15 := hide (HB14.out.trans (hb.mono HB14.out.size))
  have hs15 : w14.heap.size ≤ w15.heap.size := hb.size
  have HOx1__15 := hide (HOx1__14.out.below hb)
  clear HOx1__14
  have HOx2__15 := hide (HOx2__14.out.below hb)
  clear HOx2__14
  have HOx3__15 := hide (HOx3__14.out.below hb)
  clear HOx3__14
  have HOt_15 := hide (HOt_14.out.below hb)
  clear HOt_14
  clear hb
  clear HOt_15
  go_wp2_with fail
  go_ret
  exact ⟨rfl, HB15.out⟩
end Go.Proofs.Ytjebkagbknmdoaa
