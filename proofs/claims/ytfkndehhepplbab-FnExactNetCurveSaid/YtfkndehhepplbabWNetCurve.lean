/- The law FnExactNetCurve, walked. -/
import Derived.Test.YtfkndehhepplbabNc
import Derived.Test.YtfkndehhepplbabMk
import Derived.Test.YtfkndehhepplbabMs
import Derived.Test.YtfkndehhepplbabRow
import Derived.Test.YtfkndehhepplbabSc
import Derived.Deep.RegionHeld3
namespace Go.Proofs.Ytfkndehhepplbab
open Go.RowKit Go.Dues
set_option maxHeartbeats 4000000 in
theorem lawNetCurve_any (A0 A0' : Option Addr) (n0 c0 n0' c0' : Nat) (x0 y0 : Nat → Int) (v1 : Int) (v2 : Int) (v3 : Int) (v4 : Int) (v5 : Int) (v6 : Int) (w : World) (hm0 : n0 ≤ maxLen) (hm0' : n0' ≤ maxLen) (hs0 : SL w A0 n0 (fun j => .int .i64 (x0 j))) (hs0' : SL w A0' n0' (fun j => .int .i64 (y0 j))) (wv1 : -9223372036854775808 ≤ v1 ∧ v1 ≤ 9223372036854775807) (wv2 : -9223372036854775808 ≤ v2 ∧ v2 ≤ 9223372036854775807) (wv3 : -9223372036854775808 ≤ v3 ∧ v3 ≤ 9223372036854775807) (wv4 : -9223372036854775808 ≤ v4 ∧ v4 ≤ 9223372036854775807) (wv5 : -9223372036854775808 ≤ v5 ∧ v5 ≤ 9223372036854775807) (wv6 : -9223372036854775808 ≤ v6 ∧ v6 ≤ 9223372036854775807) :
    Calls Try.prog 5 #[.agg #[.slice A0 n0 c0, .slice A0' n0' c0'], .int .i64 v1, .int .i64 v2, .int .i64 v3, .int .i64 v4, .int .i64 v5, .int .i64 v6] w fun e w' => e = .returned (.bool true) ∧ Below w.heap.size w w' := by
  have WV1 := hide wv1
  clear wv1
  have WV2 := hide wv2
  clear wv2
  have WV3 := hide wv3
  clear wv3
  have WV4 := hide wv4
  clear wv4
  have WV5 := hide wv5
  clear wv5
  have WV6 := hide wv6
  clear wv6
  have HS0 := hide hs0
  have HS0' := hide hs0'
  clear hs0 hs0'
  obtain ⟨w0, hw0⟩ : ∃ u, u = (w.alloc (.cells #[.slice A0 n0 c0, .slice A0' n0' c0'] 24)) := ⟨_, rfl⟩
  have HB0 : Hid (Below w.heap.size w w0) := by rw [hw0]; exact ((Below.refl w.heap.size w).alloc (Nat.le_refl _) (.cells #[.slice A0 n0 c0, .slice A0' n0' c0'] 24))
  have HXa0_0 : Hid (w0.heap[w.heap.size]? = some (.cells #[.slice A0 n0 c0, .slice A0' n0' c0'] 24)) := by rw [hw0]; exact blocks1 w _
  have hs0 : w.heap.size + 1 ≤ w0.heap.size := by rw [hw0]; simp
  have HW := hide hw0
  clear hw0
  go_enter Try.func5, Try.ntmps5
  go_wp2_with fail
  rw [← HW.out]
  clear HW
  refine (szScale_any A0 A0' n0 c0 n0' c0' 1048576 _ hm0 hm0' (by omega) (by omega)).mono ?_
  rintro e w1 ⟨m0, rfl, hm, hb⟩
  have HB1 := hide (HB0.out.trans (hb.mono HB0.out.size))
  have hs1 : w0.heap.size ≤ w1.heap.size := hb.size
  have HXa0_1 := hide (blk_below hb (by omega) HXa0_0.out)
  clear HXa0_0
  clear hb
  rcases hm with ⟨hl0, hu0, hn0, hn0'⟩ | rfl
  rotate_left
  · go_wp2
    go_ret
    exact ⟨rfl, HB1.out⟩
  have ka0 := Joins.cell_of_block HXa0_1.out 0
  have ka0' := Joins.cell_of_block HXa0_1.out 1
  simp at ka0 ka0'
  go_wp2_with fail
  refine (toScaleW_any A0 A0' n0 c0 n0' c0' x0 y0 _ hn0 hn0' (HS0.out.below HB1.out) (HS0'.out.below HB1.out)).mono ?_
  rintro e w2 ⟨gs0, gs0', rfl, hg1, hg2, hg3, hb, ho, ho'⟩
  have HOs0_2 := hide (show OW2 w2 w1.heap.size w2.heap.size _ _ x0 _ _ y0 from ⟨ho.wide (Nat.le_refl _) (by omega), ho'.wide (by omega) (Nat.le_refl _), fun _ _ e => by injection e with e; injection e with e; omega⟩)
  clear ho ho' hg1 hg2 hg3
  have HB2 := hide (HB1.out.trans (hb.mono HB1.out.size))
  have hs2 : w1.heap.size ≤ w2.heap.size := hb.size
  have HXa0_2 := hide (blk_below hb (by omega) HXa0_1.out)
  clear HXa0_1
  clear hb
  clear ka0 ka0'
  go_wp2_with fail
  refine (specCurve_any _ _ n0 n0 n0' n0' x0 y0 v1 v2 v3 v4 v5 v6 _ hm0 hm0' HOs0_2.out.1.sl HOs0_2.out.2.1.sl).mono ?_
  rintro e w3 ⟨W, Wc, rfl, ho, hb⟩
  have HOW_3 := hide ho
  clear ho
  have HB3 := hide (HB2.out.trans (hb.mono HB2.out.size))
  have hs3 : w2.heap.size ≤ w3.heap.size := hb.size
  have HXa0_3 := hide (blk_below hb (by omega) HXa0_2.out)
  clear HXa0_2
  have HOs0_3 := hide (HOs0_2.out.below hb)
  clear HOs0_2
  clear hb
  clear HOs0_3
  have ka0 := Joins.cell_of_block HXa0_3.out 0
  have ka0' := Joins.cell_of_block HXa0_3.out 1
  simp at ka0 ka0'
  go_wp2_with fail
  refine (toScaleW_any A0 A0' n0 c0 n0' c0' x0 y0 _ hn0 hn0' (HS0.out.below HB3.out) (HS0'.out.below HB3.out)).mono ?_
  rintro e w4 ⟨gx0_, gx0_', rfl, hg1, hg2, hg3, hb, ho, ho'⟩
  have HOx0__4 := hide (show OW2 w4 w3.heap.size w4.heap.size _ _ x0 _ _ y0 from ⟨ho.wide (Nat.le_refl _) (by omega), ho'.wide (by omega) (Nat.le_refl _), fun _ _ e => by injection e with e; injection e with e; omega⟩)
  clear ho ho' hg1 hg2 hg3
  have HB4 := hide (HB3.out.trans (hb.mono HB3.out.size))
  have hs4 : w3.heap.size ≤ w4.heap.size := hb.size
  have HXa0_4 := hide (blk_below hb (by omega) HXa0_3.out)
  clear HXa0_3
  have HOW_4 := hide (HOW_3.out.below hb)
  clear HOW_3
  clear hb
  clear ka0 ka0'
  obtain ⟨w5, hwe⟩ : ∃ u, u = w4.alloc (.cells #[.slice (some ⟨gx0_, 0, none⟩) n0 n0, .slice (some ⟨gx0_', 0, none⟩) n0' n0'] 28) := ⟨_, rfl⟩
  have hb : Below w4.heap.size w4 w5 := by rw [hwe]; exact (Below.refl _ _).alloc (Nat.le_refl _) _
  have HXx0_5 : Hid (w5.heap[w4.heap.size]? = some (.cells #[.slice (some ⟨gx0_, 0, none⟩) n0 n0, .slice (some ⟨gx0_', 0, none⟩) n0' n0'] 28)) := by rw [hwe]; exact blocks1 w4 _
  have hsb5 : w4.heap.size + 1 ≤ w5.heap.size := by rw [hwe]; simp
  have HW := hide hwe
  clear hwe
  have HB5 := hide (HB4.out.trans (hb.mono HB4.out.size))
  have hs5 : w4.heap.size ≤ w5.heap.size := hb.size
  have HXa0_5 := hide (blk_below hb (by omega) HXa0_4.out)
  clear HXa0_4
  have HOW_5 := hide (HOW_4.out.below hb)
  clear HOW_4
  have HOx0__5 := hide (HOx0__4.out.below hb)
  clear HOx0__4
  clear hb
  have kx0 := Joins.cell_of_block HXx0_5.out 0
  have kx0' := Joins.cell_of_block HXx0_5.out 1
  simp at kx0 kx0'
  have ix0 := kx0
  have ix0' := kx0'
  rw [HW.out] at ix0 ix0'
  go_wp2_with fail
  rw [← HW.out]
  clear HW
  clear ix0 ix0'
  refine (implCurve_any _ _ n0 n0 n0' n0' x0 y0 v1 v2 v3 v4 v5 v6 _ hm0 hm0' HOx0__5.out.1.sl HOx0__5.out.2.1.sl).mono ?_
  rintro e w6 ⟨R, Rc, rfl, ho, hb⟩
  have HOR_6 := hide ho
  clear ho
  have HB6 := hide (HB5.out.trans (hb.mono HB5.out.size))
  have hs6 : w5.heap.size ≤ w6.heap.size := hb.size
  have HXa0_6 := hide (blk_below hb (by omega) HXa0_5.out)
  clear HXa0_5
  have HXx0_6 := hide (blk_below hb (by omega) HXx0_5.out)
  clear HXx0_5
  have HOW_6 := hide (HOW_5.out.below hb)
  clear HOW_5
  have HOx0__6 := hide (HOx0__5.out.below hb)
  clear HOx0__5
  clear hb
  clear kx0 kx0'
  go_wp2_with fail
  refine (eqIs_any _ _ (lenV (ncP x0 y0 n0 n0' v1 v2 v3 v4 v5 v6) (v5.toNat + 1)) _ _ _ _ (by unfold maxLen; have := (show lenV (ncP x0 y0 n0 n0' v1 v2 v3 v4 v5 v6) (v5.toNat + 1) ≤ 1048576 from nc_len v5); omega) HOR_6.out.sl HOW_6.out.sl).mono ?_
  rintro e w7 ⟨rfl, q, hq⟩
  have hb : Below w6.heap.size w6 w7 := by rw [hq]; exact bel_drewN (Below.refl _ _) _
  clear hq
  have HB7 := hide (HB6.out.trans (hb.mono HB6.out.size))
  have hs7 : w6.heap.size ≤ w7.heap.size := hb.size
  have HXa0_7 := hide (blk_below hb (by omega) HXa0_6.out)
  clear HXa0_6
  have HXx0_7 := hide (blk_below hb (by omega) HXx0_6.out)
  clear HXx0_6
  have HOW_7 := hide (HOW_6.out.below hb)
  clear HOW_6
  have HOx0__7 := hide (HOx0__6.out.below hb)
  clear HOx0__6
  have HOR_7 := hide (HOR_6.out.below hb)
  clear HOR_6
  clear hb
  have ka0p := Joins.cell_of_block HXa0_7.out 0
  have ka0p' := Joins.cell_of_block HXa0_7.out 1
  simp at ka0p ka0p'
  have kx0p := Joins.cell_of_block HXx0_7.out 0
  have kx0p' := Joins.cell_of_block HXx0_7.out 1
  simp at kx0p kx0p'
  have GS := hide (HS0.out.below HB7.out)
  have GS' := hide (HS0'.out.below HB7.out)
  go_wp2_with fail
  go_region_held3 (fun w' => w'.cell? ⟨w4.heap.size, 0, none⟩ = some (.slice (some ⟨gx0_, 0, none⟩) n0 n0) ∧ w'.cell? ⟨w4.heap.size, 1, none⟩ = some (.slice (some ⟨gx0_', 0, none⟩) n0' n0') ∧ w'.cell? ⟨w.heap.size, 0, none⟩ = some (.slice A0 n0 c0) ∧ w'.cell? ⟨w.heap.size, 1, none⟩ = some (.slice A0' n0' c0')) ((first | exact ⟨kx0p, kx0p', ka0p, ka0p'⟩ | exact ⟨kx0q, kx0q', ka0q, ka0q'⟩ | exact ⟨kx0r, kx0r', ka0r, ka0r'⟩)) (first
    | (go_at_call 17; refine (toScale_any A0 A0' n0 c0 n0' c0' x0 y0 _ hn0 hn0' (by exact GS.out) (by exact GS'.out)).mono ?_; rintro e w8 ⟨_, _, rfl, _, _, _, hb, ht, ht'⟩; replace hb : Below w7.heap.size w7 w8 := ⟨hb.os, hb.tape, hb.output, hb.size, hb.block⟩; have hs8 : w7.heap.size ≤ w8.heap.size := hb.size; have HB8 := hide (HB7.out.trans (hb.mono HB7.out.size)); have HT := hide ht; have HT' := hide ht'; have HXa0_8 := hide (blk_below hb (by omega) HXa0_7.out); have HXx0_8 := hide (blk_below hb (by omega) HXx0_7.out); have HOW_8 := hide (HOW_7.out.below hb); have HOx0__8 := hide (HOx0__7.out.below hb); have HOR_8 := hide (HOR_7.out.below hb); have ka0q := Joins.cell_of_block HXa0_8.out 0; have ka0q' := Joins.cell_of_block HXa0_8.out 1; have kx0q := Joins.cell_of_block HXx0_8.out 0; have kx0q' := Joins.cell_of_block HXx0_8.out 1; simp at ka0q ka0q' kx0q kx0q'; clear hb ht ht')
    | (go_at_call 19; refine (eqScale_any _ _ _ _ n0 n0 n0' n0' n0 n0' x0 y0 _ hm0 hm0' (by exact HOx0__8.out.1.sl) (by exact HOx0__8.out.2.1.sl) (by exact HT.out) (by exact HT'.out)).mono ?_; rintro e w9 ⟨rfl, hb⟩; replace hb : Below w8.heap.size w8 w9 := ⟨hb.os, hb.tape, hb.output, hb.size, hb.block⟩; have hs9 : w8.heap.size ≤ w9.heap.size := hb.size; have HB9 := hide (HB8.out.trans (hb.mono HB8.out.size)); have HXa0_9 := hide (blk_below hb (by omega) HXa0_8.out); have HXx0_9 := hide (blk_below hb (by omega) HXx0_8.out); have HOW_9 := hide (HOW_8.out.below hb); have HOx0__9 := hide (HOx0__8.out.below hb); have HOR_9 := hide (HOR_8.out.below hb); have ka0r := Joins.cell_of_block HXa0_9.out 0; have ka0r' := Joins.cell_of_block HXa0_9.out 1; have kx0r := Joins.cell_of_block HXx0_9.out 0; have kx0r' := Joins.cell_of_block HXx0_9.out 1; simp at ka0r ka0r' kx0r kx0r'; clear hb))
  clear kx0p kx0p' ka0p ka0p' kx0q kx0q' ka0q ka0q' kx0r kx0r' ka0r ka0r' GS GS' HT HT'
  clear HXa0_7 HXa0_8 HXx0_7 HXx0_8 HOW_7 HOW_8 HOx0__7 HOx0__8 HOR_7 HOR_8
  have kx0 := Joins.cell_of_block HXx0_9.out 0
  have kx0' := Joins.cell_of_block HXx0_9.out 1
  simp at kx0 kx0'
  go_wp2_with fail
  refine (markScale_any _ _ n0 _ n0' _ w3.heap.size w4.heap.size _ _ (1) _ (hn0) (hn0') (by omega) (by omega) HOx0__9.out (by omega) (by omega)).mono ?_
  rintro e w10 ⟨rfl, ho, hw⟩
  have HOx0__10 := hide ho
  clear ho HOx0__9
  replace hw : Marked w3.heap.size w4.heap.size w9 w10 := marked_alloc hw
  have hs10 : w9.heap.size ≤ w10.heap.size := hw.size
  have HB10 := hide (HB9.out.trans (hw.bel (B := w.heap.size) (by omega) (by omega)))
  have HXa0_10 := hide (blk_marked hw (by omega) (by omega) HXa0_9.out)
  clear HXa0_9
  have HXx0_10 := hide (blk_marked hw (by omega) (by omega) HXx0_9.out)
  clear HXx0_9
  have HOW_10 := hide (HOW_9.out.marked hw (by omega))
  clear HOW_9
  have HOR_10 := hide (HOR_9.out.marked hw (by omega))
  clear HOR_9
  clear hw
  clear kx0 kx0'
  clear HOx0__10
  clear HXx0_10
  go_wp2_with fail
  refine (eqIs_any _ _ (lenV (ncP x0 y0 n0 n0' v1 v2 v3 v4 v5 v6) (v5.toNat + 1)) _ _ _ _ (by unfold maxLen; have := (show lenV (ncP x0 y0 n0 n0' v1 v2 v3 v4 v5 v6) (v5.toNat + 1) ≤ 1048576 from nc_len v5); omega) HOR_10.out.sl HOW_10.out.sl).mono ?_
  rintro e w11 ⟨rfl, q, hq⟩
  have hb : Below w10.heap.size w10 w11 := by rw [hq]; exact bel_drewN (Below.refl _ _) _
  clear hq
  have HB11 := hide (HB10.out.trans (hb.mono HB10.out.size))
  have hs11 : w10.heap.size ≤ w11.heap.size := hb.size
  have HXa0_11 := hide (blk_below hb (by omega) HXa0_10.out)
  clear HXa0_10
  have HOW_11 := hide (HOW_10.out.below hb)
  clear HOW_10
  have HOR_11 := hide (HOR_10.out.below hb)
  clear HOR_10
  clear hb
  have hM := (show lenV (ncP x0 y0 n0 n0' v1 v2 v3 v4 v5 v6) (v5.toNat + 1) ≤ 1048576 from nc_len v5)
  go_wp2_with fail
  refine (markIs_any _ (lenV (ncP x0 y0 n0 n0' v1 v2 v3 v4 v5 v6) (v5.toNat + 1)) _ w5.heap.size w6.heap.size _ (1) _ (hM) (by omega) (by omega) HOR_11.out).mono ?_
  rintro e w12 ⟨rfl, ho, hw⟩
  have HOR_12 := hide ho
  clear ho HOR_11
  replace hw : Marked w5.heap.size w6.heap.size w11 w12 := marked_of hw
  have hs12 : w11.heap.size ≤ w12.heap.size := hw.size
  have HB12 := hide (HB11.out.trans (hw.bel (B := w.heap.size) (by omega) (by omega)))
  have HXa0_12 := hide (blk_marked hw (by omega) (by omega) HXa0_11.out)
  clear HXa0_11
  have HOW_12 := hide (HOW_11.out.marked hw (by omega))
  clear HOW_11
  clear hw
  go_wp2_with fail
  refine (heldIs_any _ (lenV (ncP x0 y0 n0 n0' v1 v2 v3 v4 v5 v6) (v5.toNat + 1)) _ 1 _ hM (by omega) (by omega) HOR_12.out.sl).mono ?_
  rintro e w13 ⟨rfl, q, hq⟩
  have hb : Below w12.heap.size w12 w13 := by rw [hq]; exact bel_drewN (Below.refl _ _) _
  clear hq
  have HB13 := hide (HB12.out.trans (hb.mono HB12.out.size))
  have hs13 : w12.heap.size ≤ w13.heap.size := hb.size
  have HXa0_13 := hide (blk_below hb (by omega) HXa0_12.out)
  clear HXa0_12
  have HOW_13 := hide (HOW_12.out.below hb)
  clear HOW_12
  have HOR_13 := hide (HOR_12.out.below hb)
  clear HOR_12
  clear hb
  have ka0 := Joins.cell_of_block HXa0_13.out 0
  have ka0' := Joins.cell_of_block HXa0_13.out 1
  simp at ka0 ka0'
  go_wp2_with fail
  refine (toScaleW_any A0 A0' n0 c0 n0' c0' x0 y0 _ hn0 hn0' (HS0.out.below HB13.out) (HS0'.out.below HB13.out)).mono ?_
  rintro e w14 ⟨gh0_, gh0_', rfl, hg1, hg2, hg3, hb, ho, ho'⟩
  have HOh0__14 := hide (show OW2 w14 w13.heap.size w14.heap.size _ _ x0 _ _ y0 from ⟨ho.wide (Nat.le_refl _) (by omega), ho'.wide (by omega) (Nat.le_refl _), fun _ _ e => by injection e with e; injection e with e; omega⟩)
  clear ho ho' hg1 hg2 hg3
  have HB14 := hide (HB13.out.trans (hb.mono HB13.out.size))
  have hs14 : w13.heap.size ≤ w14.heap.size := hb.size
  have HXa0_14 := hide (blk_below hb (by omega) HXa0_13.out)
  clear HXa0_13
  have HOW_14 := hide (HOW_13.out.below hb)
  clear HOW_13
  have HOR_14 := hide (HOR_13.out.below hb)
  clear HOR_13
  clear hb
  clear ka0 ka0'
  go_wp2_with fail
  refine (implCurve_any _ _ n0 n0 n0' n0' x0 y0 v1 v2 v3 v4 v5 v6 _ hm0 hm0' HOh0__14.out.1.sl HOh0__14.out.2.1.sl).mono ?_
  rintro e w15 ⟨Q, Qc, rfl, ho, hb⟩
  have HOQ_15 := hide ho
  clear ho
  have HB15 := hide (HB14.out.trans (hb.mono HB14.out.size))
  have hs15 : w14.heap.size ≤ w15.heap.size := hb.size
  have HXa0_15 := hide (blk_below hb (by omega) HXa0_14.out)
  clear HXa0_14
  have HOW_15 := hide (HOW_14.out.below hb)
  clear HOW_14
  have HOR_15 := hide (HOR_14.out.below hb)
  clear HOR_14
  have HOh0__15 := hide (HOh0__14.out.below hb)
  clear HOh0__14
  clear hb
  clear HOh0__15
  go_wp2_with fail
  refine (eqIs_any _ _ (lenV (ncP x0 y0 n0 n0' v1 v2 v3 v4 v5 v6) (v5.toNat + 1)) _ _ _ _ (by unfold maxLen; have := (show lenV (ncP x0 y0 n0 n0' v1 v2 v3 v4 v5 v6) (v5.toNat + 1) ≤ 1048576 from nc_len v5); omega) HOQ_15.out.sl HOW_15.out.sl).mono ?_
  rintro e w16 ⟨rfl, q, hq⟩
  have hb : Below w15.heap.size w15 w16 := by rw [hq]; exact bel_drewN (Below.refl _ _) _
  clear hq
  have HB16 := hide (HB15.out.trans (hb.mono HB15.out.size))
  have hs16 : w15.heap.size ≤ w16.heap.size := hb.size
  have HXa0_16 := hide (blk_below hb (by omega) HXa0_15.out)
  clear HXa0_15
  have HOW_16 := hide (HOW_15.out.below hb)
  clear HOW_15
  have HOR_16 := hide (HOR_15.out.below hb)
  clear HOR_15
  have HOQ_16 := hide (HOQ_15.out.below hb)
  clear HOQ_15
  clear hb
  go_wp2_with fail
  refine (heldIs_any _ (lenV (ncP x0 y0 n0 n0' v1 v2 v3 v4 v5 v6) (v5.toNat + 1)) _ 1 _ hM (by omega) (by omega) HOR_16.out.sl).mono ?_
  rintro e w17 ⟨rfl, q, hq⟩
  have hb : Below w16.heap.size w16 w17 := by rw [hq]; exact bel_drewN (Below.refl _ _) _
  clear hq
  have HB17 := hide (HB16.out.trans (hb.mono HB16.out.size))
  have hs17 : w16.heap.size ≤ w17.heap.size := hb.size
  have HXa0_17 := hide (blk_below hb (by omega) HXa0_16.out)
  clear HXa0_16
  have HOW_17 := hide (HOW_16.out.below hb)
  clear HOW_16
  have HOR_17 := hide (HOR_16.out.below hb)
  clear HOR_16
  have HOQ_17 := hide (HOQ_16.out.below hb)
  clear HOQ_16
  clear hb
  go_wp2_with fail
  go_ret
  exact ⟨rfl, HB17.out⟩
end Go.Proofs.Ytfkndehhepplbab
