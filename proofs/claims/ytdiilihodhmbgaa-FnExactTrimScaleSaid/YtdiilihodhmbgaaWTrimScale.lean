/- The law FnExactTrimScale, walked. -/
import Derived.Test.YtdiilihodhmbgaaTr
import Derived.Test.YtdiilihodhmbgaaMs
import Derived.Test.YtdiilihodhmbgaaRow
import Derived.Deep.RegionHeld3
namespace Go.Proofs.Ytdiilihodhmbgaa
open Go.RowKit Go.Dues
set_option maxHeartbeats 4000000 in
theorem lawTrimScale_any (A0 A0' : Option Addr) (n0 c0 n0' c0' : Nat) (x0 y0 : Nat → Int) (w : World) (hm0 : n0 ≤ maxLen) (hm0' : n0' ≤ maxLen) (hs0 : SL w A0 n0 (fun j => .int .i64 (x0 j))) (hs0' : SL w A0' n0' (fun j => .int .i64 (y0 j))) :
    Calls Try.prog 3 #[.agg #[.slice A0 n0 c0, .slice A0' n0' c0']] w fun e w' => e = .returned (.bool true) ∧ Below w.heap.size w w' := by
  have HS0 := hide hs0
  have HS0' := hide hs0'
  clear hs0 hs0'
  obtain ⟨w0, hw0⟩ : ∃ u, u = (w.alloc (.cells #[.slice A0 n0 c0, .slice A0' n0' c0'] 24)) := ⟨_, rfl⟩
  have HB0 : Hid (Below w.heap.size w w0) := by rw [hw0]; exact ((Below.refl w.heap.size w).alloc (Nat.le_refl _) (.cells #[.slice A0 n0 c0, .slice A0' n0' c0'] 24))
  have HXa0_0 : Hid (w0.heap[w.heap.size]? = some (.cells #[.slice A0 n0 c0, .slice A0' n0' c0'] 24)) := by rw [hw0]; exact blocks1 w _
  have hs0 : w.heap.size + 1 ≤ w0.heap.size := by rw [hw0]; simp
  have HW := hide hw0
  clear hw0
  go_enter Try.func3, Try.ntmps3
  go_wp2_with fail
  rw [← HW.out]
  clear HW
  refine (szScale_any A0 A0' n0 c0 n0' c0' 1048576 _ hm0 hm0' (by omega) (by omega)).mono ?_
  rintro e w1 ⟨m0, rfl, hm, hb⟩
  have HB1 := hide (HB0.out.trans (hb.mono HB0.out.size))
  have hs1 : w0.heap.size ≤ w1.heap.size := hb.size
  have HXa0_1 := hide (blk_below hb (by omega) HXa0_0.out)
  clear HXa0_0
  clear hb
  rcases hm with ⟨hl0, hu0, hn0, hn0'⟩ | rfl
  rotate_left
  · go_wp2
    go_ret
    exact ⟨rfl, HB1.out⟩
  have ka0 := Joins.cell_of_block HXa0_1.out 0
  have ka0' := Joins.cell_of_block HXa0_1.out 1
  simp at ka0 ka0'
  go_wp2_with fail
  refine (toScaleW_any A0 A0' n0 c0 n0' c0' x0 y0 _ hn0 hn0' (HS0.out.below HB1.out) (HS0'.out.below HB1.out)).mono ?_
  rintro e w2 ⟨gs0, gs0', rfl, hg1, hg2, hg3, hb, ho, ho'⟩
  have HOs0_2 := hide (show OW2 w2 w1.heap.size w2.heap.size _ _ x0 _ _ y0 from ⟨ho.wide (Nat.le_refl _) (by omega), ho'.wide (by omega) (Nat.le_refl _), fun _ _ e => by injection e with e; injection e with e; omega⟩)
  clear ho ho' hg1 hg2 hg3
  have HB2 := hide (HB1.out.trans (hb.mono HB1.out.size))
  have hs2 : w1.heap.size ≤ w2.heap.size := hb.size
  have HXa0_2 := hide (blk_below hb (by omega) HXa0_1.out)
  clear HXa0_1
  clear hb
  clear ka0 ka0'
  go_wp2_with fail
  refine (specTrim_any _ _ n0 n0 n0' n0' x0 y0 _ hm0 hm0' HOs0_2.out.1.sl HOs0_2.out.2.1.sl).mono ?_
  rintro e w3 ⟨W, Wc, W', Wc', rfl, ho, hb⟩
  have HOW_3 := hide ho
  clear ho
  have HB3 := hide (HB2.out.trans (hb.mono HB2.out.size))
  have hs3 : w2.heap.size ≤ w3.heap.size := hb.size
  have HXa0_3 := hide (blk_below hb (by omega) HXa0_2.out)
  clear HXa0_2
  have HOs0_3 := hide (HOs0_2.out.below hb)
  clear HOs0_2
  clear hb
  clear HOs0_3
  obtain ⟨w4, hwe⟩ : ∃ u, u = w3.alloc (.cells #[.slice W (lenV (Val x0 y0 n0 n0') (kpL y0 n0).length) Wc, .slice W' (lenV (Val x0 y0 n0 n0') (kpL y0 n0).length) Wc'] 26) := ⟨_, rfl⟩
  have hb : Below w3.heap.size w3 w4 := by rw [hwe]; exact (Below.refl _ _).alloc (Nat.le_refl _) _
  have HXW_4 : Hid (w4.heap[w3.heap.size]? = some (.cells #[.slice W (lenV (Val x0 y0 n0 n0') (kpL y0 n0).length) Wc, .slice W' (lenV (Val x0 y0 n0 n0') (kpL y0 n0).length) Wc'] 26)) := by rw [hwe]; exact blocks1 w3 _
  have hsb4 : w3.heap.size + 1 ≤ w4.heap.size := by rw [hwe]; simp
  have HW := hide hwe
  clear hwe
  have HB4 := hide (HB3.out.trans (hb.mono HB3.out.size))
  have hs4 : w3.heap.size ≤ w4.heap.size := hb.size
  have HXa0_4 := hide (blk_below hb (by omega) HXa0_3.out)
  clear HXa0_3
  have HOW_4 := hide (HOW_3.out.below hb)
  clear HOW_3
  clear hb
  have ka0 := Joins.cell_of_block HXa0_4.out 0
  have ka0' := Joins.cell_of_block HXa0_4.out 1
  simp at ka0 ka0'
  have ia0 := ka0
  have ia0' := ka0'
  rw [HW.out] at ia0 ia0'
  go_wp2_with fail
  rw [← HW.out]
  clear HW
  clear ia0 ia0'
  refine (toScaleW_any A0 A0' n0 c0 n0' c0' x0 y0 _ hn0 hn0' (HS0.out.below HB4.out) (HS0'.out.below HB4.out)).mono ?_
  rintro e w5 ⟨gx0_, gx0_', rfl, hg1, hg2, hg3, hb, ho, ho'⟩
  have HOx0__5 := hide (show OW2 w5 w4.heap.size w5.heap.size _ _ x0 _ _ y0 from ⟨ho.wide (Nat.le_refl _) (by omega), ho'.wide (by omega) (Nat.le_refl _), fun _ _ e => by injection e with e; injection e with e; omega⟩)
  clear ho ho' hg1 hg2 hg3
  have HB5 := hide (HB4.out.trans (hb.mono HB4.out.size))
  have hs5 : w4.heap.size ≤ w5.heap.size := hb.size
  have HXa0_5 := hide (blk_below hb (by omega) HXa0_4.out)
  clear HXa0_4
  have HXW_5 := hide (blk_below hb (by omega) HXW_4.out)
  clear HXW_4
  have HOW_5 := hide (HOW_4.out.below hb)
  clear HOW_4
  clear hb
  clear ka0 ka0'
  obtain ⟨w6, hwe⟩ : ∃ u, u = w5.alloc (.cells #[.slice (some ⟨gx0_, 0, none⟩) n0 n0, .slice (some ⟨gx0_', 0, none⟩) n0' n0'] 26) := ⟨_, rfl⟩
  have hb : Below w5.heap.size w5 w6 := by rw [hwe]; exact (Below.refl _ _).alloc (Nat.le_refl _) _
  have HXx0_6 : Hid (w6.heap[w5.heap.size]? = some (.cells #[.slice (some ⟨gx0_, 0, none⟩) n0 n0, .slice (some ⟨gx0_', 0, none⟩) n0' n0'] 26)) := by rw [hwe]; exact blocks1 w5 _
  have hsb6 : w5.heap.size + 1 ≤ w6.heap.size := by rw [hwe]; simp
  have HW := hide hwe
  clear hwe
  have HB6 := hide (HB5.out.trans (hb.mono HB5.out.size))
  have hs6 : w5.heap.size ≤ w6.heap.size := hb.size
  have HXa0_6 := hide (blk_below hb (by omega) HXa0_5.out)
  clear HXa0_5
  have HXW_6 := hide (blk_below hb (by omega) HXW_5.out)
  clear HXW_5
  have HOW_6 := hide (HOW_5.out.below hb)
  clear HOW_5
  have HOx0__6 := hide (HOx0__5.out.below hb)
  clear HOx0__5
  clear hb
  have kx0 := Joins.cell_of_block HXx0_6.out 0
  have kx0' := Joins.cell_of_block HXx0_6.out 1
  simp at kx0 kx0'
  have ix0 := kx0
  have ix0' := kx0'
  rw [HW.out] at ix0 ix0'
  go_wp2_with fail
  rw [← HW.out]
  clear HW
  clear ix0 ix0'
  refine (implTrim_any _ _ n0 n0 n0' n0' x0 y0 _ hm0 hm0' HOx0__6.out.1.sl HOx0__6.out.2.1.sl).mono ?_
  rintro e w7 ⟨R, Rc, R', Rc', rfl, ho, hb⟩
  have HOR_7 := hide ho
  clear ho
  have HB7 := hide (HB6.out.trans (hb.mono HB6.out.size))
  have hs7 : w6.heap.size ≤ w7.heap.size := hb.size
  have HXa0_7 := hide (blk_below hb (by omega) HXa0_6.out)
  clear HXa0_6
  have HXW_7 := hide (blk_below hb (by omega) HXW_6.out)
  clear HXW_6
  have HXx0_7 := hide (blk_below hb (by omega) HXx0_6.out)
  clear HXx0_6
  have HOW_7 := hide (HOW_6.out.below hb)
  clear HOW_6
  have HOx0__7 := hide (HOx0__6.out.below hb)
  clear HOx0__6
  clear hb
  clear kx0 kx0'
  obtain ⟨w8, hwe⟩ : ∃ u, u = w7.alloc (.cells #[.slice R (lenV (Val x0 y0 n0 n0') (kpL y0 n0).length) Rc, .slice R' (lenV (Val x0 y0 n0 n0') (kpL y0 n0).length) Rc'] 26) := ⟨_, rfl⟩
  have hb : Below w7.heap.size w7 w8 := by rw [hwe]; exact (Below.refl _ _).alloc (Nat.le_refl _) _
  have HXR_8 : Hid (w8.heap[w7.heap.size]? = some (.cells #[.slice R (lenV (Val x0 y0 n0 n0') (kpL y0 n0).length) Rc, .slice R' (lenV (Val x0 y0 n0 n0') (kpL y0 n0).length) Rc'] 26)) := by rw [hwe]; exact blocks1 w7 _
  have hsb8 : w7.heap.size + 1 ≤ w8.heap.size := by rw [hwe]; simp
  have HW := hide hwe
  clear hwe
  have HB8 := hide (HB7.out.trans (hb.mono HB7.out.size))
  have hs8 : w7.heap.size ≤ w8.heap.size := hb.size
  have HXa0_8 := hide (blk_below hb (by omega) HXa0_7.out)
  clear HXa0_7
  have HXW_8 := hide (blk_below hb (by omega) HXW_7.out)
  clear HXW_7
  have HXx0_8 := hide (blk_below hb (by omega) HXx0_7.out)
  clear HXx0_7
  have HOW_8 := hide (HOW_7.out.below hb)
  clear HOW_7
  have HOx0__8 := hide (HOx0__7.out.below hb)
  clear HOx0__7
  have HOR_8 := hide (HOR_7.out.below hb)
  clear HOR_7
  clear hb
  have kR := Joins.cell_of_block HXR_8.out 0
  have kR' := Joins.cell_of_block HXR_8.out 1
  simp at kR kR'
  have iR := kR
  have iR' := kR'
  rw [HW.out] at iR iR'
  have kW := Joins.cell_of_block HXW_8.out 0
  have kW' := Joins.cell_of_block HXW_8.out 1
  simp at kW kW'
  have iW := kW
  have iW' := kW'
  rw [HW.out] at iW iW'
  go_wp2_with fail
  rw [← HW.out]
  clear HW
  clear iR iR' iW iW'
  refine (eqScale_any _ _ _ _ (lenV (Val x0 y0 n0 n0') (kpL y0 n0).length) _ (lenV (Val x0 y0 n0 n0') (kpL y0 n0).length) _ _ _ _ _ _ (by unfold maxLen; have := (show lenV (Val x0 y0 n0 n0') (kpL y0 n0).length ≤ 1048576 from Nat.le_trans (lenV_le _ _) (Nat.le_trans (kpL_len y0 n0) hn0)); omega) (by unfold maxLen; have := (show lenV (Val x0 y0 n0 n0') (kpL y0 n0).length ≤ 1048576 from Nat.le_trans (lenV_le _ _) (Nat.le_trans (kpL_len y0 n0) hn0)); omega) HOR_8.out.1.sl HOR_8.out.2.1.sl HOW_8.out.1.sl HOW_8.out.2.1.sl).mono ?_
  rintro e w9 ⟨rfl, hb⟩
  have HB9 := hide (HB8.out.trans (hb.mono HB8.out.size))
  have hs9 : w8.heap.size ≤ w9.heap.size := hb.size
  have HXa0_9 := hide (blk_below hb (by omega) HXa0_8.out)
  clear HXa0_8
  have HXW_9 := hide (blk_below hb (by omega) HXW_8.out)
  clear HXW_8
  have HXx0_9 := hide (blk_below hb (by omega) HXx0_8.out)
  clear HXx0_8
  have HXR_9 := hide (blk_below hb (by omega) HXR_8.out)
  clear HXR_8
  have HOW_9 := hide (HOW_8.out.below hb)
  clear HOW_8
  have HOx0__9 := hide (HOx0__8.out.below hb)
  clear HOx0__8
  have HOR_9 := hide (HOR_8.out.below hb)
  clear HOR_8
  clear hb
  clear kR kR' kW kW'
  have ka0p := Joins.cell_of_block HXa0_9.out 0
  have ka0p' := Joins.cell_of_block HXa0_9.out 1
  simp at ka0p ka0p'
  have kx0p := Joins.cell_of_block HXx0_9.out 0
  have kx0p' := Joins.cell_of_block HXx0_9.out 1
  simp at kx0p kx0p'
  have GS := hide (HS0.out.below HB9.out)
  have GS' := hide (HS0'.out.below HB9.out)
  go_wp2_with fail
  go_region_held3 (fun w' => w'.cell? ⟨w5.heap.size, 0, none⟩ = some (.slice (some ⟨gx0_, 0, none⟩) n0 n0) ∧ w'.cell? ⟨w5.heap.size, 1, none⟩ = some (.slice (some ⟨gx0_', 0, none⟩) n0' n0') ∧ w'.cell? ⟨w.heap.size, 0, none⟩ = some (.slice A0 n0 c0) ∧ w'.cell? ⟨w.heap.size, 1, none⟩ = some (.slice A0' n0' c0')) ((first | exact ⟨kx0p, kx0p', ka0p, ka0p'⟩ | exact ⟨kx0q, kx0q', ka0q, ka0q'⟩ | exact ⟨kx0r, kx0r', ka0r, ka0r'⟩)) (first
    | (go_at_call 17; refine (toScale_any A0 A0' n0 c0 n0' c0' x0 y0 _ hn0 hn0' (by exact GS.out) (by exact GS'.out)).mono ?_; rintro e w10 ⟨_, _, rfl, _, _, _, hb, ht, ht'⟩; replace hb : Below w9.heap.size w9 w10 := ⟨hb.os, hb.tape, hb.output, hb.size, hb.block⟩; have hs10 : w9.heap.size ≤ w10.heap.size := hb.size; have HB10 := hide (HB9.out.trans (hb.mono HB9.out.size)); have HT := hide ht; have HT' := hide ht'; have HXa0_10 := hide (blk_below hb (by omega) HXa0_9.out); have HXW_10 := hide (blk_below hb (by omega) HXW_9.out); have HXx0_10 := hide (blk_below hb (by omega) HXx0_9.out); have HXR_10 := hide (blk_below hb (by omega) HXR_9.out); have HOW_10 := hide (HOW_9.out.below hb); have HOx0__10 := hide (HOx0__9.out.below hb); have HOR_10 := hide (HOR_9.out.below hb); have ka0q := Joins.cell_of_block HXa0_10.out 0; have ka0q' := Joins.cell_of_block HXa0_10.out 1; have kx0q := Joins.cell_of_block HXx0_10.out 0; have kx0q' := Joins.cell_of_block HXx0_10.out 1; simp at ka0q ka0q' kx0q kx0q'; clear hb ht ht')
    | (go_at_call 19; refine (eqScale_any _ _ _ _ n0 n0 n0' n0' n0 n0' x0 y0 _ hm0 hm0' (by exact HOx0__10.out.1.sl) (by exact HOx0__10.out.2.1.sl) (by exact HT.out) (by exact HT'.out)).mono ?_; rintro e w11 ⟨rfl, hb⟩; replace hb : Below w10.heap.size w10 w11 := ⟨hb.os, hb.tape, hb.output, hb.size, hb.block⟩; have hs11 : w10.heap.size ≤ w11.heap.size := hb.size; have HB11 := hide (HB10.out.trans (hb.mono HB10.out.size)); have HXa0_11 := hide (blk_below hb (by omega) HXa0_10.out); have HXW_11 := hide (blk_below hb (by omega) HXW_10.out); have HXx0_11 := hide (blk_below hb (by omega) HXx0_10.out); have HXR_11 := hide (blk_below hb (by omega) HXR_10.out); have HOW_11 := hide (HOW_10.out.below hb); have HOx0__11 := hide (HOx0__10.out.below hb); have HOR_11 := hide (HOR_10.out.below hb); have ka0r := Joins.cell_of_block HXa0_11.out 0; have ka0r' := Joins.cell_of_block HXa0_11.out 1; have kx0r := Joins.cell_of_block HXx0_11.out 0; have kx0r' := Joins.cell_of_block HXx0_11.out 1; simp at ka0r ka0r' kx0r kx0r'; clear hb))
  clear kx0p kx0p' ka0p ka0p' kx0q kx0q' ka0q ka0q' kx0r kx0r' ka0r ka0r' GS GS' HT HT'
  clear HXa0_9 HXa0_10 HXW_9 HXW_10 HXx0_9 HXx0_10 HXR_9 HXR_10 HOW_9 HOW_10 HOx0__9 HOx0__10 HOR_9 HOR_10
  have kx0 := Joins.cell_of_block HXx0_11.out 0
  have kx0' := Joins.cell_of_block HXx0_11.out 1
  simp at kx0 kx0'
  go_wp2_with fail
  refine (markScale_any _ _ n0 _ n0' _ w4.heap.size w5.heap.size _ _ (1) _ (hn0) (hn0') (by omega) (by omega) HOx0__11.out (by omega) (by omega)).mono ?_
  rintro e w12 ⟨rfl, ho, hw⟩
  have HOx0__12 := hide ho
  clear ho HOx0__11
  replace hw : Marked w4.heap.size w5.heap.size w11 w12 := marked_alloc hw
  have hs12 : w11.heap.size ≤ w12.heap.size := hw.size
  have HB12 := hide (HB11.out.trans (hw.bel (B := w.heap.size) (by omega) (by omega)))
  have HXa0_12 := hide (blk_marked hw (by omega) (by omega) HXa0_11.out)
  clear HXa0_11
  have HXW_12 := hide (blk_marked hw (by omega) (by omega) HXW_11.out)
  clear HXW_11
  have HXx0_12 := hide (blk_marked hw (by omega) (by omega) HXx0_11.out)
  clear HXx0_11
  have HXR_12 := hide (blk_marked hw (by omega) (by omega) HXR_11.out)
  clear HXR_11
  have HOW_12 := hide (HOW_11.out.marked hw (by omega))
  clear HOW_11
  have HOR_12 := hide (HOR_11.out.marked hw (by omega))
  clear HOR_11
  clear hw
  clear kx0 kx0'
  clear HOx0__12
  clear HXx0_12
  have kR := Joins.cell_of_block HXR_12.out 0
  have kR' := Joins.cell_of_block HXR_12.out 1
  simp at kR kR'
  have kW := Joins.cell_of_block HXW_12.out 0
  have kW' := Joins.cell_of_block HXW_12.out 1
  simp at kW kW'
  go_wp2_with fail
  refine (eqScale_any _ _ _ _ (lenV (Val x0 y0 n0 n0') (kpL y0 n0).length) _ (lenV (Val x0 y0 n0 n0') (kpL y0 n0).length) _ _ _ _ _ _ (by unfold maxLen; have := (show lenV (Val x0 y0 n0 n0') (kpL y0 n0).length ≤ 1048576 from Nat.le_trans (lenV_le _ _) (Nat.le_trans (kpL_len y0 n0) hn0)); omega) (by unfold maxLen; have := (show lenV (Val x0 y0 n0 n0') (kpL y0 n0).length ≤ 1048576 from Nat.le_trans (lenV_le _ _) (Nat.le_trans (kpL_len y0 n0) hn0)); omega) HOR_12.out.1.sl HOR_12.out.2.1.sl HOW_12.out.1.sl HOW_12.out.2.1.sl).mono ?_
  rintro e w13 ⟨rfl, hb⟩
  have HB13 := hide (HB12.out.trans (hb.mono HB12.out.size))
  have hs13 : w12.heap.size ≤ w13.heap.size := hb.size
  have HXa0_13 := hide (blk_below hb (by omega) HXa0_12.out)
  clear HXa0_12
  have HXW_13 := hide (blk_below hb (by omega) HXW_12.out)
  clear HXW_12
  have HXR_13 := hide (blk_below hb (by omega) HXR_12.out)
  clear HXR_12
  have HOW_13 := hide (HOW_12.out.below hb)
  clear HOW_12
  have HOR_13 := hide (HOR_12.out.below hb)
  clear HOR_12
  clear hb
  clear kR kR' kW kW'
  have hM := (show lenV (Val x0 y0 n0 n0') (kpL y0 n0).length ≤ 1048576 from Nat.le_trans (lenV_le _ _) (Nat.le_trans (kpL_len y0 n0) hn0))
  have hM := (show lenV (Val x0 y0 n0 n0') (kpL y0 n0).length ≤ 1048576 from Nat.le_trans (lenV_le _ _) (Nat.le_trans (kpL_len y0 n0) hn0))
  have kR := Joins.cell_of_block HXR_13.out 0
  have kR' := Joins.cell_of_block HXR_13.out 1
  simp at kR kR'
  go_wp2_with fail
  refine (markScale_any _ _ (lenV (Val x0 y0 n0 n0') (kpL y0 n0).length) _ (lenV (Val x0 y0 n0 n0') (kpL y0 n0).length) _ w6.heap.size w7.heap.size _ _ (1) _ (hM) (hM) (by omega) (by omega) HOR_13.out (by omega) (by omega)).mono ?_
  rintro e w14 ⟨rfl, ho, hw⟩
  have HOR_14 := hide ho
  clear ho HOR_13
  replace hw : Marked w6.heap.size w7.heap.size w13 w14 := marked_alloc hw
  have hs14 : w13.heap.size ≤ w14.heap.size := hw.size
  have HB14 := hide (HB13.out.trans (hw.bel (B := w.heap.size) (by omega) (by omega)))
  have HXa0_14 := hide (blk_marked hw (by omega) (by omega) HXa0_13.out)
  clear HXa0_13
  have HXW_14 := hide (blk_marked hw (by omega) (by omega) HXW_13.out)
  clear HXW_13
  have HXR_14 := hide (blk_marked hw (by omega) (by omega) HXR_13.out)
  clear HXR_13
  have HOW_14 := hide (HOW_13.out.marked hw (by omega))
  clear HOW_13
  clear hw
  clear kR kR'
  have kR := Joins.cell_of_block HXR_14.out 0
  have kR' := Joins.cell_of_block HXR_14.out 1
  simp at kR kR'
  go_wp2_with fail
  refine (heldScale_any _ _ (lenV (Val x0 y0 n0 n0') (kpL y0 n0).length) _ (lenV (Val x0 y0 n0 n0') (kpL y0 n0).length) _ 1 _ hM hM (by omega) (by omega) HOR_14.out.1.sl HOR_14.out.2.1.sl).mono ?_
  rintro e w15 ⟨rfl, hb⟩
  have HB15 := hide (HB14.out.trans (hb.mono HB14.out.size))
  have hs15 : w14.heap.size ≤ w15.heap.size := hb.size
  have HXa0_15 := hide (blk_below hb (by omega) HXa0_14.out)
  clear HXa0_14
  have HXW_15 := hide (blk_below hb (by omega) HXW_14.out)
  clear HXW_14
  have HXR_15 := hide (blk_below hb (by omega) HXR_14.out)
  clear HXR_14
  have HOW_15 := hide (HOW_14.out.below hb)
  clear HOW_14
  have HOR_15 := hide (HOR_14.out.below hb)
  clear HOR_14
  clear hb
  clear kR kR'
  have ka0 := Joins.cell_of_block HXa0_15.out 0
  have ka0' := Joins.cell_of_block HXa0_15.out 1
  simp at ka0 ka0'
  go_wp2_with fail
  refine (toScaleW_any A0 A0' n0 c0 n0' c0' x0 y0 _ hn0 hn0' (HS0.out.below HB15.out) (HS0'.out.below HB15.out)).mono ?_
  rintro e w16 ⟨gh0_, gh0_', rfl, hg1, hg2, hg3, hb, ho, ho'⟩
  have HOh0__16 := hide (show OW2 w16 w15.heap.size w16.heap.size _ _ x0 _ _ y0 from ⟨ho.wide (Nat.le_refl _) (by omega), ho'.wide (by omega) (Nat.le_refl _), fun _ _ e => by injection e with e; injection e with e; omega⟩)
  clear ho ho' hg1 hg2 hg3
  have HB16 := hide (HB15.out.trans (hb.mono HB15.out.size))
  have hs16 : w15.heap.size ≤ w16.heap.size := hb.size
  have HXa0_16 := hide (blk_below hb (by omega) HXa0_15.out)
  clear HXa0_15
  have HXW_16 := hide (blk_below hb (by omega) HXW_15.out)
  clear HXW_15
  have HXR_16 := hide (blk_below hb (by omega) HXR_15.out)
  clear HXR_15
  have HOW_16 := hide (HOW_15.out.below hb)
  clear HOW_15
  have HOR_16 := hide (HOR_15.out.below hb)
  clear HOR_15
  clear hb
  clear ka0 ka0'
  go_wp2_with fail
  refine (implTrim_any _ _ n0 n0 n0' n0' x0 y0 _ hm0 hm0' HOh0__16.out.1.sl HOh0__16.out.2.1.sl).mono ?_
  rintro e w17 ⟨Q, Qc, Q', Qc', rfl, ho, hb⟩
  have HOQ_17 := hide ho
  clear ho
  have HB17 := hide (HB16.out.trans (hb.mono HB16.out.size))
  have hs17 : w16.heap.size ≤ w17.heap.size := hb.size
  have HXa0_17 := hide (blk_below hb (by omega) HXa0_16.out)
  clear HXa0_16
  have HXW_17 := hide (blk_below hb (by omega) HXW_16.out)
  clear HXW_16
  have HXR_17 := hide (blk_below hb (by omega) HXR_16.out)
  clear HXR_16
  have HOW_17 := hide (HOW_16.out.below hb)
  clear HOW_16
  have HOR_17 := hide (HOR_16.out.below hb)
  clear HOR_16
  have HOh0__17 := hide (HOh0__16.out.below hb)
  clear HOh0__16
  clear hb
  clear HOh0__17
  obtain ⟨w18, hwe⟩ : ∃ u, u = w17.alloc (.cells #[.slice Q (lenV (Val x0 y0 n0 n0') (kpL y0 n0).length) Qc, .slice Q' (lenV (Val x0 y0 n0 n0') (kpL y0 n0).length) Qc'] 26) := ⟨_, rfl⟩
  have hb : Below w17.heap.size w17 w18 := by rw [hwe]; exact (Below.refl _ _).alloc (Nat.le_refl _) _
  have HXQ_18 : Hid (w18.heap[w17.heap.size]? = some (.cells #[.slice Q (lenV (Val x0 y0 n0 n0') (kpL y0 n0).length) Qc, .slice Q' (lenV (Val x0 y0 n0 n0') (kpL y0 n0).length) Qc'] 26)) := by rw [hwe]; exact blocks1 w17 _
  have hsb18 : w17.heap.size + 1 ≤ w18.heap.size := by rw [hwe]; simp
  have HW := hide hwe
  clear hwe
  have HB18 := hide (HB17.out.trans (hb.mono HB17.out.size))
  have hs18 : w17.heap.size ≤ w18.heap.size := hb.size
  have HXa0_18 := hide (blk_below hb (by omega) HXa0_17.out)
  clear HXa0_17
  have HXW_18 := hide (blk_below hb (by omega) HXW_17.out)
  clear HXW_17
  have HXR_18 := hide (blk_below hb (by omega) HXR_17.out)
  clear HXR_17
  have HOW_18 := hide (HOW_17.out.below hb)
  clear HOW_17
  have HOR_18 := hide (HOR_17.out.below hb)
  clear HOR_17
  have HOQ_18 := hide (HOQ_17.out.below hb)
  clear HOQ_17
  clear hb
  have kQ := Joins.cell_of_block HXQ_18.out 0
  have kQ' := Joins.cell_of_block HXQ_18.out 1
  simp at kQ kQ'
  have iQ := kQ
  have iQ' := kQ'
  rw [HW.out] at iQ iQ'
  have kW := Joins.cell_of_block HXW_18.out 0
  have kW' := Joins.cell_of_block HXW_18.out 1
  simp at kW kW'
  have iW := kW
  have iW' := kW'
  rw [HW.out] at iW iW'
  go_wp2_with fail
  rw [← HW.out]
  clear HW
  clear iQ iQ' iW iW'
  refine (eqScale_any _ _ _ _ (lenV (Val x0 y0 n0 n0') (kpL y0 n0).length) _ (lenV (Val x0 y0 n0 n0') (kpL y0 n0).length) _ _ _ _ _ _ (by unfold maxLen; have := (show lenV (Val x0 y0 n0 n0') (kpL y0 n0).length ≤ 1048576 from Nat.le_trans (lenV_le _ _) (Nat.le_trans (kpL_len y0 n0) hn0)); omega) (by unfold maxLen; have := (show lenV (Val x0 y0 n0 n0') (kpL y0 n0).length ≤ 1048576 from Nat.le_trans (lenV_le _ _) (Nat.le_trans (kpL_len y0 n0) hn0)); omega) HOQ_18.out.1.sl HOQ_18.out.2.1.sl HOW_18.out.1.sl HOW_18.out.2.1.sl).mono ?_
  rintro e w19 ⟨rfl, hb⟩
  have HB19 := hide (HB18.out.trans (hb.mono HB18.out.size))
  have hs19 : w18.heap.size ≤ w19.heap.size := hb.size
  have HXa0_19 := hide (blk_below hb (by omega) HXa0_18.out)
  clear HXa0_18
  have HXW_19 := hide (blk_below hb (by omega) HXW_18.out)
  clear HXW_18
  have HXR_19 := hide (blk_below hb (by omega) HXR_18.out)
  clear HXR_18
  have HXQ_19 := hide (blk_below hb (by omega) HXQ_18.out)
  clear HXQ_18
  have HOW_19 := hide (HOW_18.out.below hb)
  clear HOW_18
  have HOR_19 := hide (HOR_18.out.below hb)
  clear HOR_18
  have HOQ_19 := hide (HOQ_18.out.below hb)
  clear HOQ_18
  clear hb
  clear kQ kQ' kW kW'
  have kR := Joins.cell_of_block HXR_19.out 0
  have kR' := Joins.cell_of_block HXR_19.out 1
  simp at kR kR'
  go_wp2_with fail
  refine (heldScale_any _ _ (lenV (Val x0 y0 n0 n0') (kpL y0 n0).length) _ (lenV (Val x0 y0 n0 n0') (kpL y0 n0).length) _ 1 _ hM hM (by omega) (by omega) HOR_19.out.1.sl HOR_19.out.2.1.sl).mono ?_
  rintro e w20 ⟨rfl, hb⟩
  have HB20 := hide (HB19.out.trans (hb.mono HB19.out.size))
  have hs20 : w19.heap.size ≤ w20.heap.size := hb.size
  have HXa0_20 := hide (blk_below hb (by omega) HXa0_19.out)
  clear HXa0_19
  have HXW_20 := hide (blk_below hb (by omega) HXW_19.out)
  clear HXW_19
  have HXR_20 := hide (blk_below hb (by omega) HXR_19.out)
  clear HXR_19
  have HXQ_20 := hide (blk_below hb (by omega) HXQ_19.out)
  clear HXQ_19
  have HOW_20 := hide (HOW_19.out.below hb)
  clear HOW_19
  have HOR_20 := hide (HOR_19.out.below hb)
  clear HOR_19
  have HOQ_20 := hide (HOQ_19.out.below hb)
  clear HOQ_19
  clear hb
  clear kR kR'
  go_wp2_with fail
  go_ret
  exact ⟨rfl, HB20.out⟩
end Go.Proofs.Ytdiilihodhmbgaa
