/- The law FnExactRateCurve, walked. -/
import Derived.Test.YtjebkagbknmdoaaRcs8
import Derived.Test.YtjebkagbknmdoaaRci8
import Derived.Test.YtjebkagbknmdoaaMs
import Derived.Test.YtjebkagbknmdoaaMk
import Derived.Test.YtjebkagbknmdoaaMf
import Derived.Test.YtjebkagbknmdoaaRow
import Derived.Deep.RegionHeld3
namespace Go.Proofs.Ytjebkagbknmdoaa
open Go.RowKit Go.Dues
set_option maxHeartbeats 4000000 in
theorem lawRateCurve_any (A0 A0' : Option Addr) (n0 c0 n0' c0' : Nat) (x0 y0 : Nat → Int) (A1 : Option Addr) (n1 c1 : Nat) (x1 : Nat → Int) (w : World) (hm0 : n0 ≤ maxLen) (hm0' : n0' ≤ maxLen) (hs0 : SL w A0 n0 (fun j => .int .i64 (x0 j))) (hs0' : SL w A0' n0' (fun j => .int .i64 (y0 j))) (hm1 : n1 ≤ maxLen) (hs1 : SL w A1 n1 (fun j => .int .i64 (x1 j))) :
    Calls Try.prog 11 #[.agg #[.slice A0 n0 c0, .slice A0' n0' c0'], .slice A1 n1 c1] w fun e w' => e = .returned (.bool true) ∧ Below w.heap.size w w' := by
  unfold maxLen at hm1
  by_cases hbig1 : (1048576 : Int) < (n1 : Int)
  · clear hs0 hs0' hs1
    go_enter Try.func11, Try.ntmps11
    go_wp2
    go_ret
    exact ⟨rfl, ((Below.refl w.heap.size w).alloc (Nat.le_refl _) (.cells #[.slice A0 n0 c0, .slice A0' n0' c0'] 73))⟩
  have hm1 : n1 ≤ maxLen := hm1
  have hn1 : n1 ≤ 1048576 := by omega
  have HS0 := hide hs0
  have HS0' := hide hs0'
  clear hs0 hs0'
  have HS1 := hide hs1
  clear hs1
  obtain ⟨w0, hw0⟩ : ∃ u, u = (w.alloc (.cells #[.slice A0 n0 c0, .slice A0' n0' c0'] 73)) := ⟨_, rfl⟩
  have HB0 : Hid (Below w.heap.size w w0) := by rw [hw0]; exact ((Below.refl w.heap.size w).alloc (Nat.le_refl _) (.cells #[.slice A0 n0 c0, .slice A0' n0' c0'] 73))
  have HXa0_0 : Hid (w0.heap[w.heap.size]? = some (.cells #[.slice A0 n0 c0, .slice A0' n0' c0'] 73)) := by rw [hw0]; exact blocks1 w _
  have hs0 : w.heap.size + 1 ≤ w0.heap.size := by rw [hw0]; simp
  have HW := hide hw0
  clear hw0
  go_enter Try.func11, Try.ntmps11
  go_wp2_with fail
  rw [← HW.out]
  clear HW
  refine (szScale_any A0 A0' n0 c0 n0' c0' 1048576 _ hm0 hm0' (by omega) (by omega)).mono ?_
  rintro e w1 ⟨m0, rfl, hm, hb⟩
  have HB1 := hide (HB0.out.trans (hb.mono HB0.out.size))
  have hs1 : w0.heap.size ≤ w1.heap.size := hb.size
  have HXa0_1 := hide (blk_below hb (by omega) HXa0_0.out)
  clear HXa0_0
  clear hb
  rcases hm with ⟨hl0, hu0, hn0, hn0'⟩ | rfl
  rotate_left
  · go_wp2
    go_ret
    exact ⟨rfl, HB1.out⟩
  have ka0 := Joins.cell_of_block HXa0_1.out 0
  have ka0' := Joins.cell_of_block HXa0_1.out 1
  simp at ka0 ka0'
  go_wp2_with fail
  refine (toScaleW_any A0 A0' n0 c0 n0' c0' x0 y0 _ hn0 hn0' (HS0.out.below HB1.out) (HS0'.out.below HB1.out)).mono ?_
  rintro e w2 ⟨gs0, gs0', rfl, hg1, hg2, hg3, hb, ho, ho'⟩
  have HOs0_2 := hide (show OW2 w2 w1.heap.size w2.heap.size _ _ x0 _ _ y0 from ⟨ho.wide (Nat.le_refl _) (by omega), ho'.wide (by omega) (Nat.le_refl _), fun _ _ e => by injection e with e; injection e with e; omega⟩)
  clear ho ho' hg1 hg2 hg3
  have HB2 := hide (HB1.out.trans (hb.mono HB1.out.size))
  have hs2 : w1.heap.size ≤ w2.heap.size := hb.size
  have HXa0_2 := hide (blk_below hb (by omega) HXa0_1.out)
  clear HXa0_1
  clear hb
  clear ka0 ka0'
  go_wp2_with fail
  refine (toIsW_any A1 n1 c1 x1 _ hn1 (HS1.out.below HB2.out)).mono ?_
  rintro e w3 ⟨gs1, rfl, hg1, hg2, hb, ho⟩
  have HOs1_3 := hide ho
  clear ho hg1 hg2
  have HB3 := hide (HB2.out.trans (hb.mono HB2.out.size))
  have hs3 : w2.heap.size ≤ w3.heap.size := hb.size
  have HXa0_3 := hide (blk_below hb (by omega) HXa0_2.out)
  clear HXa0_2
  have HOs0_3 := hide (HOs0_2.out.below hb)
  clear HOs0_2
  clear hb
  go_wp2_with fail
  refine (specRateCurve_any _ _ n0 n0 n0' n0' x0 y0 _ n1 n1 x1 _ hm0 hm0' HOs0_3.out.1.sl HOs0_3.out.2.1.sl hm1 HOs1_3.out.sl).mono ?_
  rintro e w4 ⟨W, Wc, Wz, rfl, ho, hz, hb⟩
  have HZW := hide hz
  clear hz
  have HOW_4 := hide ho
  clear ho
  have HB4 := hide (HB3.out.trans (hb.mono HB3.out.size))
  have hs4 : w3.heap.size ≤ w4.heap.size := hb.size
  have HXa0_4 := hide (blk_below hb (by omega) HXa0_3.out)
  clear HXa0_3
  have HOs0_4 := hide (HOs0_3.out.below hb)
  clear HOs0_3
  have HOs1_4 := hide (HOs1_3.out.below hb)
  clear HOs1_3
  clear hb
  clear HOs0_4
  clear HOs1_4
  have ka0 := Joins.cell_of_block HXa0_4.out 0
  have ka0' := Joins.cell_of_block HXa0_4.out 1
  simp at ka0 ka0'
  go_wp2_with fail
  refine (toScaleW_any A0 A0' n0 c0 n0' c0' x0 y0 _ hn0 hn0' (HS0.out.below HB4.out) (HS0'.out.below HB4.out)).mono ?_
  rintro e w5 ⟨gx0_, gx0_', rfl, hg1, hg2, hg3, hb, ho, ho'⟩
  have HOx0__5 := hide (show OW2 w5 w4.heap.size w5.heap.size _ _ x0 _ _ y0 from ⟨ho.wide (Nat.le_refl _) (by omega), ho'.wide (by omega) (Nat.le_refl _), fun _ _ e => by injection e with e; injection e with e; omega⟩)
  clear ho ho' hg1 hg2 hg3
  have HB5 := hide (HB4.out.trans (hb.mono HB4.out.size))
  have hs5 : w4.heap.size ≤ w5.heap.size := hb.size
  have HXa0_5 := hide (blk_below hb (by omega) HXa0_4.out)
  clear HXa0_4
  have HOW_5 := hide (HOW_4.out.below hb)
  clear HOW_4
  clear hb
  clear ka0 ka0'
  obtain ⟨w6, hwe⟩ : ∃ u, u = w5.alloc (.cells #[.slice (some ⟨gx0_, 0, none⟩) n0 n0, .slice (some ⟨gx0_', 0, none⟩) n0' n0'] 39) := ⟨_, rfl⟩
  have hb : Below w5.heap.size w5 w6 := by rw [hwe]; exact (Below.refl _ _).alloc (Nat.le_refl _) _
  have HXx0_6 : Hid (w6.heap[w5.heap.size]? = some (.cells #[.slice (some ⟨gx0_, 0, none⟩) n0 n0, .slice (some ⟨gx0_', 0, none⟩) n0' n0'] 39)) := by rw [hwe]; exact blocks1 w5 _
  have hsb6 : w5.heap.size + 1 ≤ w6.heap.size := by rw [hwe]; simp
  have HW := hide hwe
  clear hwe
  have HB6 := hide (HB5.out.trans (hb.mono HB5.out.size))
  have hs6 : w5.heap.size ≤ w6.heap.size := hb.size
  have HXa0_6 := hide (blk_below hb (by omega) HXa0_5.out)
  clear HXa0_5
  have HOW_6 := hide (HOW_5.out.below hb)
  clear HOW_5
  have HOx0__6 := hide (HOx0__5.out.below hb)
  clear HOx0__5
  clear hb
  go_wp2_with fail
  rw [← HW.out]
  clear HW
  refine (toIsW_any A1 n1 c1 x1 _ hn1 (HS1.out.below HB6.out)).mono ?_
  rintro e w7 ⟨gx1_, rfl, hg1, hg2, hb, ho⟩
  have HOx1__7 := hide ho
  clear ho hg1 hg2
  have HB7 := hide (HB6.out.trans (hb.mono HB6.out.size))
  have hs7 : w6.heap.size ≤ w7.heap.size := hb.size
  have HXa0_7 := hide (blk_below hb (by omega) HXa0_6.out)
  clear HXa0_6
  have HXx0_7 := hide (blk_below hb (by omega) HXx0_6.out)
  clear HXx0_6
  have HOW_7 := hide (HOW_6.out.below hb)
  clear HOW_6
  have HOx0__7 := hide (HOx0__6.out.below hb)
  clear HOx0__6
  clear hb
  have kx0 := Joins.cell_of_block HXx0_7.out 0
  have kx0' := Joins.cell_of_block HXx0_7.out 1
  simp at kx0 kx0'
  go_wp2_with fail
  refine (implRateCurve_any _ _ n0 n0 n0' n0' x0 y0 _ n1 n1 x1 _ hm0 hm0' HOx0__7.out.1.sl HOx0__7.out.2.1.sl hm1 HOx1__7.out.sl).mono ?_
  rintro e w8 ⟨R, Rc, Rz, rfl, ho, hz, hb⟩
  have HZR := hide hz
  clear hz
  have HOR_8 := hide ho
  clear ho
  have HB8 := hide (HB7.out.trans (hb.mono HB7.out.size))
  have hs8 : w7.heap.size ≤ w8.heap.size := hb.size
  have HXa0_8 := hide (blk_below hb (by omega) HXa0_7.out)
  clear HXa0_7
  have HXx0_8 := hide (blk_below hb (by omega) HXx0_7.out)
  clear HXx0_7
  have HOW_8 := hide (HOW_7.out.below hb)
  clear HOW_7
  have HOx0__8 := hide (HOx0__7.out.below hb)
  clear HOx0__7
  have HOx1__8 := hide (HOx1__7.out.below hb)
  clear HOx1__7
  clear hb
  clear kx0 kx0'
  go_wp2_with fail
  refine (eqFl_any _ _ (lenV (rcP x0 y0 n0 n0' x1 n1) n1) _ _ Rz Wz _ (by unfold maxLen; have := (show lenV (rcP x0 y0 n0 n0' x1 n1) n1 ≤ 1048576 from Nat.le_trans (lenV_le _ _) hn1); omega) HOR_8.out.sl HOW_8.out.sl (fun j hj => (HZR.out j hj).trans (HZW.out j hj).symm)).mono ?_
  rintro e w9 ⟨rfl, q, hq⟩
  have hb : Below w8.heap.size w8 w9 := by rw [hq]; exact bel_drewN (Below.refl _ _) _
  clear hq
  have HB9 := hide (HB8.out.trans (hb.mono HB8.out.size))
  have hs9 : w8.heap.size ≤ w9.heap.size := hb.size
  have HXa0_9 := hide (blk_below hb (by omega) HXa0_8.out)
  clear HXa0_8
  have HXx0_9 := hide (blk_below hb (by omega) HXx0_8.out)
  clear HXx0_8
  have HOW_9 := hide (HOW_8.out.below hb)
  clear HOW_8
  have HOx0__9 := hide (HOx0__8.out.below hb)
  clear HOx0__8
  have HOx1__9 := hide (HOx1__8.out.below hb)
  clear HOx1__8
  have HOR_9 := hide (HOR_8.out.below hb)
  clear HOR_8
  clear hb
  have ka0p := Joins.cell_of_block HXa0_9.out 0
  have ka0p' := Joins.cell_of_block HXa0_9.out 1
  simp at ka0p ka0p'
  have kx0p := Joins.cell_of_block HXx0_9.out 0
  have kx0p' := Joins.cell_of_block HXx0_9.out 1
  simp at kx0p kx0p'
  have GS := hide (HS0.out.below HB9.out)
  have GS' := hide (HS0'.out.below HB9.out)
  go_wp2_with fail
  go_region_held3 (fun w' => w'.cell? ⟨w5.heap.size, 0, none⟩ = some (.slice (some ⟨gx0_, 0, none⟩) n0 n0) ∧ w'.cell? ⟨w5.heap.size, 1, none⟩ = some (.slice (some ⟨gx0_', 0, none⟩) n0' n0') ∧ w'.cell? ⟨w.heap.size, 0, none⟩ = some (.slice A0 n0 c0) ∧ w'.cell? ⟨w.heap.size, 1, none⟩ = some (.slice A0' n0' c0')) ((first | exact ⟨kx0p, kx0p', ka0p, ka0p'⟩ | exact ⟨kx0q, kx0q', ka0q, ka0q'⟩ | exact ⟨kx0r, kx0r', ka0r, ka0r'⟩)) (first
    | (go_at_call 53; refine (toScale_any A0 A0' n0 c0 n0' c0' x0 y0 _ hn0 hn0' (by exact GS.out) (by exact GS'.out)).mono ?_; rintro e w10 ⟨_, _, rfl, _, _, _, hb, ht, ht'⟩; replace hb : Below w9.heap.size w9 w10 := ⟨hb.os, hb.tape, hb.output, hb.size, hb.block⟩; have hs10 : w9.heap.size ≤ w10.heap.size := hb.size; have HB10 := hide (HB9.out.trans (hb.mono HB9.out.size)); have HT := hide ht; have HT' := hide ht'; have HXa0_10 := hide (blk_below hb (by omega) HXa0_9.out); have HXx0_10 := hide (blk_below hb (by omega) HXx0_9.out); have HOW_10 := hide (HOW_9.out.below hb); have HOx0__10 := hide (HOx0__9.out.below hb); have HOx1__10 := hide (HOx1__9.out.below hb); have HOR_10 := hide (HOR_9.out.below hb); have ka0q := Joins.cell_of_block HXa0_10.out 0; have ka0q' := Joins.cell_of_block HXa0_10.out 1; have kx0q := Joins.cell_of_block HXx0_10.out 0; have kx0q' := Joins.cell_of_block HXx0_10.out 1; simp at ka0q ka0q' kx0q kx0q'; clear hb ht ht')
    | (go_at_call 55; refine (eqScale_any _ _ _ _ n0 n0 n0' n0' n0 n0' x0 y0 _ hm0 hm0' (by exact HOx0__10.out.1.sl) (by exact HOx0__10.out.2.1.sl) (by exact HT.out) (by exact HT'.out)).mono ?_; rintro e w11 ⟨rfl, hb⟩; replace hb : Below w10.heap.size w10 w11 := ⟨hb.os, hb.tape, hb.output, hb.size, hb.block⟩; have hs11 : w10.heap.size ≤ w11.heap.size := hb.size; have HB11 := hide (HB10.out.trans (hb.mono HB10.out.size)); have HXa0_11 := hide (blk_below hb (by omega) HXa0_10.out); have HXx0_11 := hide (blk_below hb (by omega) HXx0_10.out); have HOW_11 := hide (HOW_10.out.below hb); have HOx0__11 := hide (HOx0__10.out.below hb); have HOx1__11 := hide (HOx1__10.out.below hb); have HOR_11 := hide (HOR_10.out.below hb); have ka0r := Joins.cell_of_block HXa0_11.out 0; have ka0r' := Joins.cell_of_block HXa0_11.out 1; have kx0r := Joins.cell_of_block HXx0_11.out 0; have kx0r' := Joins.cell_of_block HXx0_11.out 1; simp at ka0r ka0r' kx0r kx0r'; clear hb))
  clear kx0p kx0p' ka0p ka0p' kx0q kx0q' ka0q ka0q' kx0r kx0r' ka0r ka0r' GS GS' HT HT'
  clear HXa0_9 HXa0_10 HXx0_9 HXx0_10 HOW_9 HOW_10 HOx0__9 HOx0__10 HOx1__9 HOx1__10 HOR_9 HOR_10
  go_wp2_with fail
  refine (toIsW_any A1 n1 c1 x1 _ hn1 (HS1.out.below HB11.out)).mono ?_
  rintro e w12 ⟨gt, rfl, hg1, hg2, hb, ho⟩
  have HOt_12 := hide ho
  clear ho hg1 hg2
  have HB12 := hide (HB11.out.trans (hb.mono HB11.out.size))
  have hs12 : w11.heap.size ≤ w12.heap.size := hb.size
  have HXa0_12 := hide (blk_below hb (by omega) HXa0_11.out)
  clear HXa0_11
  have HXx0_12 := hide (blk_below hb (by omega) HXx0_11.out)
  clear HXx0_11
  have HOW_12 := hide (HOW_11.out.below hb)
  clear HOW_11
  have HOx0__12 := hide (HOx0__11.out.below hb)
  clear HOx0__11
  have HOx1__12 := hide (HOx1__11.out.below hb)
  clear HOx1__11
  have HOR_12 := hide (HOR_11.out.below hb)
  clear HOR_11
  clear hb
  go_wp2_with fail
  refine (eqIs_any _ _ n1 _ _ _ _ hm1 HOx1__12.out.sl HOt_12.out.sl).mono ?_
  rintro e w13 ⟨rfl, q, hq⟩
  have hb : Below w12.heap.size w12 w13 := by rw [hq]; exact bel_drewN (Below.refl _ _) _
  clear hq
  have HB13 := hide (HB12.out.trans (hb.mono HB12.out.size))
  have hs13 : w12.heap.size ≤ w13.heap.size := hb.size
  have HXa0_13 := hide (blk_below hb (by omega) HXa0_12.out)
  clear HXa0_12
  have HXx0_13 := hide (blk_below hb (by omega) HXx0_12.out)
  clear HXx0_12
  have HOW_13 := hide (HOW_12.out.below hb)
  clear HOW_12
  have HOx0__13 := hide (HOx0__12.out.below hb)
  clear HOx0__12
  have HOx1__13 := hide (HOx1__12.out.below hb)
  clear HOx1__12
  have HOR_13 := hide (HOR_12.out.below hb)
  clear HOR_12
  have HOt_13 := hide (HOt_12.out.below hb)
  clear HOt_12
  clear hb
  clear HOt_13
  have kx0 := Joins.cell_of_block HXx0_13.out 0
  have kx0' := Joins.cell_of_block HXx0_13.out 1
  simp at kx0 kx0'
  go_wp2_with fail
  refine (markScale_any _ _ n0 _ n0' _ w4.heap.size w5.heap.size _ _ (1) _ (hn0) (hn0') (by omega) (by omega) HOx0__13.out (by omega) (by omega)).mono ?_
  rintro e w14 ⟨rfl, ho, hw⟩
  have HOx0__14 := hide ho
  clear ho HOx0__13
  replace hw : Marked w4.heap.size w5.heap.size w13 w14 := marked_alloc hw
  have hs14 : w13.heap.size ≤ w14.heap.size := hw.size
  have HB14 := hide (HB13.out.trans (hw.bel (B := w.heap.size) (by omega) (by omega)))
  have HXa0_14 := hide (blk_marked hw (by omega) (by omega) HXa0_13.out)
  clear HXa0_13
  have HXx0_14 := hide (blk_marked hw (by omega) (by omega) HXx0_13.out)
  clear HXx0_13
  have HOW_14 := hide (HOW_13.out.marked hw (by omega))
  clear HOW_13
  have HOx1__14 := hide (HOx1__13.out.marked hw (by omega))
  clear HOx1__13
  have HOR_14 := hide (HOR_13.out.marked hw (by omega))
  clear HOR_13
  clear hw
  clear kx0 kx0'
  go_wp2_with fail
  refine (markIs_any _ n1 _ w6.heap.size w7.heap.size _ (1 + n0 + n0') _ (hn1) (by omega) (by omega) HOx1__14.out).mono ?_
  rintro e w15 ⟨rfl, ho, hw⟩
  have HOx1__15 := hide ho
  clear ho HOx1__14
  replace hw : Marked w6.heap.size w7.heap.size w14 w15 := marked_of hw
  have hs15 : w14.heap.size ≤ w15.heap.size := hw.size
  have HB15 := hide (HB14.out.trans (hw.bel (B := w.heap.size) (by omega) (by omega)))
  have HXa0_15 := hide (blk_marked hw (by omega) (by omega) HXa0_14.out)
  clear HXa0_14
  have HXx0_15 := hide (blk_marked hw (by omega) (by omega) HXx0_14.out)
  clear HXx0_14
  have HOW_15 := hide (HOW_14.out.marked hw (by omega))
  clear HOW_14
  have HOx0__15 := hide (HOx0__14.out.marked hw (by omega))
  clear HOx0__14
  have HOR_15 := hide (HOR_14.out.marked hw (by omega))
  clear HOR_14
  clear hw
  clear HOx0__15
  clear HXx0_15
  clear HOx1__15
  go_wp2_with fail
  refine (eqFl_any _ _ (lenV (rcP x0 y0 n0 n0' x1 n1) n1) _ _ Rz Wz _ (by unfold maxLen; have := (show lenV (rcP x0 y0 n0 n0' x1 n1) n1 ≤ 1048576 from Nat.le_trans (lenV_le _ _) hn1); omega) HOR_15.out.sl HOW_15.out.sl (fun j hj => (HZR.out j hj).trans (HZW.out j hj).symm)).mono ?_
  rintro e w16 ⟨rfl, q, hq⟩
  have hb : Below w15.heap.size w15 w16 := by rw [hq]; exact bel_drewN (Below.refl _ _) _
  clear hq
  have HB16 := hide (HB15.out.trans (hb.mono HB15.out.size))
  have hs16 : w15.heap.size ≤ w16.heap.size := hb.size
  have HXa0_16 := hide (blk_below hb (by omega) HXa0_15.out)
  clear HXa0_15
  have HOW_16 := hide (HOW_15.out.below hb)
  clear HOW_15
  have HOR_16 := hide (HOR_15.out.below hb)
  clear HOR_15
  clear hb
  have hM := (show lenV (rcP x0 y0 n0 n0' x1 n1) n1 ≤ 1048576 from Nat.le_trans (lenV_le _ _) hn1)
  go_wp2_with fail
  refine (markFl_any _ (lenV (rcP x0 y0 n0 n0' x1 n1) n1) _ w7.heap.size w8.heap.size Rz (1) _ (hM) (by omega) (by omega) HOR_16.out).mono ?_
  rintro e w17 ⟨rfl, ho, hw⟩
  have HOR_17 := hide ho
  clear ho HOR_16
  replace hw : Marked w7.heap.size w8.heap.size w16 w17 := marked_of hw
  have hs17 : w16.heap.size ≤ w17.heap.size := hw.size
  have HB17 := hide (HB16.out.trans (hw.bel (B := w.heap.size) (by omega) (by omega)))
  have HXa0_17 := hide (blk_marked hw (by omega) (by omega) HXa0_16.out)
  clear HXa0_16
  have HOW_17 := hide (HOW_16.out.marked hw (by omega))
  clear HOW_16
  clear hw
  go_wp2_with fail
  refine (heldFl_any _ (lenV (rcP x0 y0 n0 n0' x1 n1) n1) _ 1 _ hM (by omega) (by omega) HOR_17.out.sl).mono ?_
  rintro e w18 ⟨rfl, q, hq⟩
  have hb : Below w17.heap.size w17 w18 := by rw [hq]; exact bel_drewN (Below.refl _ _) _
  clear hq
  have HB18 := hide (HB17.out.trans (hb.mono HB17.out.size))
  have hs18 : w17.heap.size ≤ w18.heap.size := hb.size
  have HXa0_18 := hide (blk_below hb (by omega) HXa0_17.out)
  clear HXa0_17
  have HOW_18 := hide (HOW_17.out.below hb)
  clear HOW_17
  have HOR_18 := hide (HOR_17.out.below hb)
  clear HOR_17
  clear hb
  have ka0 := Joins.cell_of_block HXa0_18.out 0
  have ka0' := Joins.cell_of_block HXa0_18.out 1
  simp at ka0 ka0'
  go_wp2_with fail
  refine (toScaleW_any A0 A0' n0 c0 n0' c0' x0 y0 _ hn0 hn0' (HS0.out.below HB18.out) (HS0'.out.below HB18.out)).mono ?_
  rintro e w19 ⟨gh0_, gh0_', rfl, hg1, hg2, hg3, hb, ho, ho'⟩
  have HOh0__19 := hide (show OW2 w19 w18.heap.size w19.heap.size _ _ x0 _ _ y0 from ⟨ho.wide (Nat.le_refl _) (by omega), ho'.wide (by omega) (Nat.le_refl _), fun _ _ e => by injection e with e; injection e with e; omega⟩)
  clear ho ho' hg1 hg2 hg3
  have HB19 := hide (HB18.out.trans (hb.mono HB18.out.size))
  have hs19 : w18.heap.size ≤ w19.heap.size := hb.size
  have HXa0_19 := hide (blk_below hb (by omega) HXa0_18.out)
  clear HXa0_18
  have HOW_19 := hide (HOW_18.out.below hb)
  clear HOW_18
  have HOR_19 := hide (HOR_18.out.below hb)
  clear HOR_18
  clear hb
  clear ka0 ka0'
  go_wp2_with fail
  refine (toIsW_any A1 n1 c1 x1 _ hn1 (HS1.out.below HB19.out)).mono ?_
  rintro e w20 ⟨gh1_, rfl, hg1, hg2, hb, ho⟩
  have HOh1__20 := hide ho
  clear ho hg1 hg2
  have HB20 := hide (HB19.out.trans (hb.mono HB19.out.size))
  have hs20 : w19.heap.size ≤ w20.heap.size := hb.size
  have HXa0_20 := hide (blk_below hb (by omega) HXa0_19.out)
  clear HXa0_19
  have HOW_20 := hide (HOW_19.out.below hb)
  clear HOW_19
  have HOR_20 := hide (HOR_19.out.below hb)
  clear HOR_19
  have HOh0__20 := hide (HOh0__19.out.below hb)
  clear HOh0__19
  clear hb
  go_wp2_with fail
  refine (implRateCurve_any _ _ n0 n0 n0' n0' x0 y0 _ n1 n1 x1 _ hm0 hm0' HOh0__20.out.1.sl HOh0__20.out.2.1.sl hm1 HOh1__20.out.sl).mono ?_
  rintro e w21 ⟨Q, Qc, Qz, rfl, ho, hz, hb⟩
  have HZQ := hide hz
  clear hz
  have HOQ_21 := hide ho
  clear ho
  have HB21 := hide (HB20.out.trans (hb.mono HB20.out.size))
  have hs21 : w20.heap.size ≤ w21.heap.size := hb.size
  have HXa0_21 := hide (blk_below hb (by omega) HXa0_20.out)
  clear HXa0_20
  have HOW_21 := hide (HOW_20.out.below hb)
  clear HOW_20
  have HOR_21 := hide (HOR_20.out.below hb)
  clear HOR_20
  have HOh0__21 := hide (HOh0__20.out.below hb)
  clear HOh0__20
  have HOh1__21 := hide (HOh1__20.out.below hb)
  clear HOh1__20
  clear hb
  clear HOh0__21
  clear HOh1__21
  go_wp2_with fail
  refine (eqFl_any _ _ (lenV (rcP x0 y0 n0 n0' x1 n1) n1) _ _ Qz Wz _ (by unfold maxLen; have := (show lenV (rcP x0 y0 n0 n0' x1 n1) n1 ≤ 1048576 from Nat.le_trans (lenV_le _ _) hn1); omega) HOQ_21.out.sl HOW_21.out.sl (fun j hj => (HZQ.out j hj).trans (HZW.out j hj).symm)).mono ?_
  rintro e w22 ⟨rfl, q, hq⟩
  have hb : Below w21.heap.size w21 w22 := by rw [hq]; exact bel_drewN (Below.refl _ _) _
  clear hq
  have HB22 := hide (HB21.out.trans (hb.mono HB21.out.size))
  have hs22 : w21.heap.size ≤ w22.heap.size := hb.size
  have HXa0_22 := hide (blk_below hb (by omega) HXa0_21.out)
  clear HXa0_21
  have HOW_22 := hide (HOW_21.out.below hb)
  clear HOW_21
  have HOR_22 := hide (HOR_21.out.below hb)
  clear HOR_21
  have HOQ_22 := hide (HOQ_21.out.below hb)
  clear HOQ_21
  clear hb
  go_wp2_with fail
  refine (heldFl_any _ (lenV (rcP x0 y0 n0 n0' x1 n1) n1) _ 1 _ hM (by omega) (by omega) HOR_22.out.sl).mono ?_
  rintro e w23 ⟨rfl, q, hq⟩
  have hb : Below w22.heap.size w22 w23 := by rw [hq]; exact bel_drewN (Below.refl _ _) _
  clear hq
  have HB23 := hide (HB22.out.trans (hb.mono HB22.out.size))
  have hs23 : w22.heap.size ≤ w23.heap.size := hb.size
  have HXa0_23 := hide (blk_below hb (by omega) HXa0_22.out)
  clear HXa0_22
  have HOW_23 := hide (HOW_22.out.below hb)
  clear HOW_22
  have HOR_23 := hide (HOR_22.out.below hb)
  clear HOR_22
  have HOQ_23 := hide (HOQ_22.out.below hb)
  clear HOQ_22
  clear hb
  go_wp2_with fail
  go_ret
  exact ⟨rfl, HB23.out⟩
end Go.Proofs.Ytjebkagbknmdoaa
