/- The law FnExactRunPeople, walked. -/
import Derived.Test.YtjebkagbknmdoaaRs9
import Derived.Test.YtjebkagbknmdoaaRm9
import Derived.Test.YtjebkagbknmdoaaMp8
import Derived.Test.YtjebkagbknmdoaaRow
import Derived.Deep.RegionHeld3
namespace Go.Proofs.Ytjebkagbknmdoaa
open Go.RowKit Go.Dues
set_option maxRecDepth 100000 in
set_option maxHeartbeats 8000000 in
theorem lawRunPeople_any (A0a : Option Addr) (n0a c0a : Nat) (x0a : Nat → Nat) (A0b : Option Addr) (n0b c0b : Nat) (x0b : Nat → Nat) (A0c : Option Addr) (n0c c0c : Nat) (x0c : Nat → Nat) (v1 : Int) (w : World) (hm0a : n0a ≤ maxLen) (hs0a : SL w A0a n0a (fun j => .float .f32 (x0a j))) (hm0b : n0b ≤ maxLen) (hs0b : SL w A0b n0b (fun j => .float .f32 (x0b j))) (hm0c : n0c ≤ maxLen) (hs0c : SL w A0c n0c (fun j => .float .f32 (x0c j))) (wv1 : -9223372036854775808 ≤ v1 ∧ v1 ≤ 9223372036854775807) :
    Calls Try.prog 5 #[.agg #[.slice A0a n0a c0a, .slice A0b n0b c0b, .slice A0c n0c c0c], .int .i64 v1] w fun e w' => e = .returned (.bool true) ∧ Below w.heap.size w w' := by
  skip
  have WV1 := hide wv1
  clear wv1
  have HS0a := hide hs0a
  clear hs0a
  have HS0b := hide hs0b
  clear hs0b
  have HS0c := hide hs0c
  clear hs0c
  obtain ⟨w0, hw0⟩ : ∃ u, u = (w.alloc (.cells #[.slice A0a n0a c0a, .slice A0b n0b c0b, .slice A0c n0c c0c] 47)) := ⟨_, rfl⟩
  have HB0 : Hid (Below w.heap.size w w0) := by rw [hw0]; exact ((Below.refl w.heap.size w).alloc (Nat.le_refl _) (.cells #[.slice A0a n0a c0a, .slice A0b n0b c0b, .slice A0c n0c c0c] 47))
  have HXa0_0 : Hid (w0.heap[w.heap.size]? = some (.cells #[.slice A0a n0a c0a, .slice A0b n0b c0b, .slice A0c n0c c0c] 47)) := by rw [hw0]; exact blocks1 w _
  have hs0 : w.heap.size + 1 ≤ w0.heap.size := by rw [hw0]; simp
  have HW := hide hw0
  clear hw0
  go_enter Try.func5, Try.ntmps5
  have ka0_0 := Joins.cell_of_block HXa0_0.out 0
  simp at ka0_0
  have ka0_1 := Joins.cell_of_block HXa0_0.out 1
  simp at ka0_1
  have ka0_2 := Joins.cell_of_block HXa0_0.out 2
  simp at ka0_2
  have ia0_0 := ka0_0
  rw [HW.out] at ia0_0
  have ia0_1 := ka0_1
  rw [HW.out] at ia0_1
  have ia0_2 := ka0_2
  rw [HW.out] at ia0_2
  go_wp2_with fail
  rw [← HW.out]
  clear HW
  clear ia0_0 ia0_1 ia0_2
  refine (szPpl_any A0a n0a c0a A0b n0b c0b A0c n0c c0c 1048576 _ hm0a hm0b hm0c (by omega) (by omega)).mono ?_
  rintro e w1 ⟨m0, rfl, hm, hb⟩
  have HB1 := hide (HB0.out.trans (hb.mono HB0.out.size))
  have hs1 : w0.heap.size ≤ w1.heap.size := hb.size
  have HXa0_1 := hide (blk_below hb (by omega) HXa0_0.out)
  clear HXa0_0
  clear hb
  clear ka0_0 ka0_1 ka0_2
  rcases hm with ⟨hl0, hu0, hn0a, hn0b, hn0c⟩ | rfl
  rotate_left
  · go_wp2
    go_ret
    exact ⟨rfl, HB1.out⟩
  obtain ⟨LN, hLN⟩ : ∃ q, lenV (rpP x0a n0a x0b n0b x0c n0c v1) n0a = q := ⟨_, rfl⟩
  obtain ⟨TB, hTB⟩ : ∃ q, tru (rpP x0a n0a x0b n0b x0c n0c v1) = q := ⟨_, rfl⟩
  have hM0 : LN ≤ 1048576 := by rw [← hLN]; exact (Nat.le_trans (lenV_le _ _) hn0a)
  have HLN := hide hLN
  clear hLN
  have HTB := hide hTB
  clear hTB
  have ka0_0 := Joins.cell_of_block HXa0_1.out 0
  simp at ka0_0
  have ka0_1 := Joins.cell_of_block HXa0_1.out 1
  simp at ka0_1
  have ka0_2 := Joins.cell_of_block HXa0_1.out 2
  simp at ka0_2
  go_wp2_with fail
  refine (toPplW_any A0a n0a c0a x0a A0b n0b c0b x0b A0c n0c c0c x0c _ hn0a (HS0a.out.below HB1.out) hn0b (HS0b.out.below HB1.out) hn0c (HS0c.out.below HB1.out)).mono ?_
  rintro e w2 ⟨gs0_a, gs0_b, gs0_c, ls0_a, us0_a, ls0_b, us0_b, ls0_c, us0_c, rfl, ho1, ho2, ho3, e1s0_, e2s0_, e3s0_, e4s0_, e5s0_, e6s0_, e7s0_, hb⟩
  have HNa := hide ho1
  have HNb := hide ho2
  have HNc := hide ho3
  clear ho1 ho2 ho3
  have HB2 := hide (HB1.out.trans (hb.mono HB1.out.size))
  have hs2 : w1.heap.size ≤ w2.heap.size := hb.size
  have HXa0_2 := hide (blk_below hb (by omega) HXa0_1.out)
  clear HXa0_1
  clear hb
  have HOs0_a_2 := HNa
  clear HNa
  have HOs0_b_2 := HNb
  clear HNb
  have HOs0_c_2 := HNc
  clear HNc
  clear ka0_0 ka0_1 ka0_2
  go_wp2_with fail
  refine (specRunPpl_any _ n0a n0a x0a _ n0b n0b x0b _ n0c n0c x0c v1 w2 hm0a HOs0_a_2.out.sl hm0b HOs0_b_2.out.sl hm0c HOs0_c_2.out.sl).mono ?_
  rintro e w3 ⟨W0a, W0ad, W0az, W0b, W0bd, W0bz, W0c, W0cd, W0cz, lW0a, uW0a, lW0b, uW0b, lW0c, uW0c, rfl, ho0a, ho0b, ho0c, hz0a, hz0b, hz0c, e1W0, e2W0, e3W0, e4W0, e5W0, e6W0, e7W0, hb⟩
  (try rw [HLN.out])
  (try rw [HTB.out])
  (try rw [HLN.out] at ho0a)
  (try rw [HLN.out] at ho0b)
  (try rw [HLN.out] at ho0c)
  (try rw [HLN.out] at hz0a)
  (try rw [HLN.out] at hz0b)
  (try rw [HLN.out] at hz0c)
  (try rw [HTB.out] at ho0a)
  (try rw [HTB.out] at ho0b)
  (try rw [HTB.out] at ho0c)
  (try rw [HTB.out] at hz0a)
  (try rw [HTB.out] at hz0b)
  (try rw [HTB.out] at hz0c)
  have Qho0a := hide ho0a
  clear ho0a
  have Qho0b := hide ho0b
  clear ho0b
  have Qho0c := hide ho0c
  clear ho0c
  have Qhz0a := hide hz0a
  clear hz0a
  have Qhz0b := hide hz0b
  clear hz0b
  have Qhz0c := hide hz0c
  clear hz0c
  have HB3 := hide (HB2.out.trans (hb.mono HB2.out.size))
  have hs3 : w2.heap.size ≤ w3.heap.size := hb.size
  have HXa0_3 := hide (blk_below hb (by omega) HXa0_2.out)
  clear HXa0_2
  have HOs0_a_3 := hide (HOs0_a_2.out.below hb)
  clear HOs0_a_2
  have HOs0_b_3 := hide (HOs0_b_2.out.below hb)
  clear HOs0_b_2
  have HOs0_c_3 := hide (HOs0_c_2.out.below hb)
  clear HOs0_c_2
  clear hb
  have HOW0a_3 := Qho0a
  have HZW0a := Qhz0a
  clear Qho0a Qhz0a
  have HOW0b_3 := Qho0b
  have HZW0b := Qhz0b
  clear Qho0b Qhz0b
  have HOW0c_3 := Qho0c
  have HZW0c := Qhz0c
  clear Qho0c Qhz0c
  clear HOs0_a_3
  clear HOs0_b_3
  clear HOs0_c_3
  obtain ⟨w4, hwe⟩ : ∃ u, u = w3.alloc (.cells #[.slice W0a LN W0ad, .slice W0b LN W0bd, .slice W0c LN W0cd] 49) := ⟨_, rfl⟩
  have hb : Below w3.heap.size w3 w4 := by rw [hwe]; exact (Below.refl _ _).alloc (Nat.le_refl _) _
  have HXW0_4 : Hid (w4.heap[w3.heap.size]? = some (.cells #[.slice W0a LN W0ad, .slice W0b LN W0bd, .slice W0c LN W0cd] 49)) := by rw [hwe]; exact blocks1 w3 _
  have hsb4 : w3.heap.size + 1 ≤ w4.heap.size := by rw [hwe]; simp
  have HW := hide hwe
  clear hwe
  have HB4 := hide (HB3.out.trans (hb.mono HB3.out.size))
  have hs4 : w3.heap.size ≤ w4.heap.size := hb.size
  have HXa0_4 := hide (blk_below hb (by omega) HXa0_3.out)
  clear HXa0_3
  have HOW0a_4 := hide (HOW0a_3.out.below hb)
  clear HOW0a_3
  have HOW0b_4 := hide (HOW0b_3.out.below hb)
  clear HOW0b_3
  have HOW0c_4 := hide (HOW0c_3.out.below hb)
  clear HOW0c_3
  clear hb
  have ka0_0 := Joins.cell_of_block HXa0_4.out 0
  simp at ka0_0
  have ka0_1 := Joins.cell_of_block HXa0_4.out 1
  simp at ka0_1
  have ka0_2 := Joins.cell_of_block HXa0_4.out 2
  simp at ka0_2
  have ia0_0 := ka0_0
  rw [HW.out] at ia0_0
  have ia0_1 := ka0_1
  rw [HW.out] at ia0_1
  have ia0_2 := ka0_2
  rw [HW.out] at ia0_2
  go_wp2_with fail
  rw [← HW.out]
  clear HW
  clear ia0_0 ia0_1 ia0_2
  refine (toPplW_any A0a n0a c0a x0a A0b n0b c0b x0b A0c n0c c0c x0c _ hn0a (HS0a.out.below HB4.out) hn0b (HS0b.out.below HB4.out) hn0c (HS0c.out.below HB4.out)).mono ?_
  rintro e w5 ⟨gx0_a, gx0_b, gx0_c, lx0_a, ux0_a, lx0_b, ux0_b, lx0_c, ux0_c, rfl, ho1, ho2, ho3, e1x0_, e2x0_, e3x0_, e4x0_, e5x0_, e6x0_, e7x0_, hb⟩
  have HNa := hide ho1
  have HNb := hide ho2
  have HNc := hide ho3
  clear ho1 ho2 ho3
  have HB5 := hide (HB4.out.trans (hb.mono HB4.out.size))
  have hs5 : w4.heap.size ≤ w5.heap.size := hb.size
  have HXa0_5 := hide (blk_below hb (by omega) HXa0_4.out)
  clear HXa0_4
  have HXW0_5 := hide (blk_below hb (by omega) HXW0_4.out)
  clear HXW0_4
  have HOW0a_5 := hide (HOW0a_4.out.below hb)
  clear HOW0a_4
  have HOW0b_5 := hide (HOW0b_4.out.below hb)
  clear HOW0b_4
  have HOW0c_5 := hide (HOW0c_4.out.below hb)
  clear HOW0c_4
  clear hb
  have HOx0_a_5 := HNa
  clear HNa
  have HOx0_b_5 := HNb
  clear HNb
  have HOx0_c_5 := HNc
  clear HNc
  clear ka0_0 ka0_1 ka0_2
  obtain ⟨w6, hwe⟩ : ∃ u, u = w5.alloc (.cells #[.slice (some ⟨gx0_a, 0, none⟩) n0a n0a, .slice (some ⟨gx0_b, 0, none⟩) n0b n0b, .slice (some ⟨gx0_c, 0, none⟩) n0c n0c] 49) := ⟨_, rfl⟩
  have hb : Below w5.heap.size w5 w6 := by rw [hwe]; exact (Below.refl _ _).alloc (Nat.le_refl _) _
  have HXx0_6 : Hid (w6.heap[w5.heap.size]? = some (.cells #[.slice (some ⟨gx0_a, 0, none⟩) n0a n0a, .slice (some ⟨gx0_b, 0, none⟩) n0b n0b, .slice (some ⟨gx0_c, 0, none⟩) n0c n0c] 49)) := by rw [hwe]; exact blocks1 w5 _
  have hsb6 : w5.heap.size + 1 ≤ w6.heap.size := by rw [hwe]; simp
  have HW := hide hwe
  clear hwe
  have HB6 := hide (HB5.out.trans (hb.mono HB5.out.size))
  have hs6 : w5.heap.size ≤ w6.heap.size := hb.size
  have HXa0_6 := hide (blk_below hb (by omega) HXa0_5.out)
  clear HXa0_5
  have HXW0_6 := hide (blk_below hb (by omega) HXW0_5.out)
  clear HXW0_5
  have HOW0a_6 := hide (HOW0a_5.out.below hb)
  clear HOW0a_5
  have HOW0b_6 := hide (HOW0b_5.out.below hb)
  clear HOW0b_5
  have HOW0c_6 := hide (HOW0c_5.out.below hb)
  clear HOW0c_5
  have HOx0_a_6 := hide (HOx0_a_5.out.below hb)
  clear HOx0_a_5
  have HOx0_b_6 := hide (HOx0_b_5.out.below hb)
  clear HOx0_b_5
  have HOx0_c_6 := hide (HOx0_c_5.out.below hb)
  clear HOx0_c_5
  clear hb
  have kx0_0 := Joins.cell_of_block HXx0_6.out 0
  simp at kx0_0
  have kx0_1 := Joins.cell_of_block HXx0_6.out 1
  simp at kx0_1
  have kx0_2 := Joins.cell_of_block HXx0_6.out 2
  simp at kx0_2
  have ix0_0 := kx0_0
  rw [HW.out] at ix0_0
  have ix0_1 := kx0_1
  rw [HW.out] at ix0_1
  have ix0_2 := kx0_2
  rw [HW.out] at ix0_2
  go_wp2_with fail
  rw [← HW.out]
  clear HW
  clear ix0_0 ix0_1 ix0_2
  refine (implRunPpl_any _ n0a n0a x0a _ n0b n0b x0b _ n0c n0c x0c v1 w6 hm0a HOx0_a_6.out.sl hm0b HOx0_b_6.out.sl hm0c HOx0_c_6.out.sl).mono ?_
  rintro e w7 ⟨R0a, R0ad, R0az, R0b, R0bd, R0bz, R0c, R0cd, R0cz, lR0a, uR0a, lR0b, uR0b, lR0c, uR0c, rfl, ho0a, ho0b, ho0c, hz0a, hz0b, hz0c, e1R0, e2R0, e3R0, e4R0, e5R0, e6R0, e7R0, hb⟩
  (try rw [HLN.out])
  (try rw [HTB.out])
  (try rw [HLN.out] at ho0a)
  (try rw [HLN.out] at ho0b)
  (try rw [HLN.out] at ho0c)
  (try rw [HLN.out] at hz0a)
  (try rw [HLN.out] at hz0b)
  (try rw [HLN.out] at hz0c)
  (try rw [HTB.out] at ho0a)
  (try rw [HTB.out] at ho0b)
  (try rw [HTB.out] at ho0c)
  (try rw [HTB.out] at hz0a)
  (try rw [HTB.out] at hz0b)
  (try rw [HTB.out] at hz0c)
  have Qho0a := hide ho0a
  clear ho0a
  have Qho0b := hide ho0b
  clear ho0b
  have Qho0c := hide ho0c
  clear ho0c
  have Qhz0a := hide hz0a
  clear hz0a
  have Qhz0b := hide hz0b
  clear hz0b
  have Qhz0c := hide hz0c
  clear hz0c
  have HB7 := hide (HB6.out.trans (hb.mono HB6.out.size))
  have hs7 : w6.heap.size ≤ w7.heap.size := hb.size
  have HXa0_7 := hide (blk_below hb (by omega) HXa0_6.out)
  clear HXa0_6
  have HXW0_7 := hide (blk_below hb (by omega) HXW0_6.out)
  clear HXW0_6
  have HXx0_7 := hide (blk_below hb (by omega) HXx0_6.out)
  clear HXx0_6
  have HOW0a_7 := hide (HOW0a_6.out.below hb)
  clear HOW0a_6
  have HOW0b_7 := hide (HOW0b_6.out.below hb)
  clear HOW0b_6
  have HOW0c_7 := hide (HOW0c_6.out.below hb)
  clear HOW0c_6
  have HOx0_a_7 := hide (HOx0_a_6.out.below hb)
  clear HOx0_a_6
  have HOx0_b_7 := hide (HOx0_b_6.out.below hb)
  clear HOx0_b_6
  have HOx0_c_7 := hide (HOx0_c_6.out.below hb)
  clear HOx0_c_6
  clear hb
  clear kx0_0 kx0_1 kx0_2
  have HOR0a_7 := Qho0a
  have HZR0a := Qhz0a
  clear Qho0a Qhz0a
  have HOR0b_7 := Qho0b
  have HZR0b := Qhz0b
  clear Qho0b Qhz0b
  have HOR0c_7 := Qho0c
  have HZR0c := Qhz0c
  clear Qho0c Qhz0c
  obtain ⟨w8, hwe⟩ : ∃ u, u = w7.alloc (.cells #[.slice R0a LN R0ad, .slice R0b LN R0bd, .slice R0c LN R0cd] 49) := ⟨_, rfl⟩
  have hb : Below w7.heap.size w7 w8 := by rw [hwe]; exact (Below.refl _ _).alloc (Nat.le_refl _) _
  have HXR0_8 : Hid (w8.heap[w7.heap.size]? = some (.cells #[.slice R0a LN R0ad, .slice R0b LN R0bd, .slice R0c LN R0cd] 49)) := by rw [hwe]; exact blocks1 w7 _
  have hsb8 : w7.heap.size + 1 ≤ w8.heap.size := by rw [hwe]; simp
  have HW := hide hwe
  clear hwe
  have HB8 := hide (HB7.out.trans (hb.mono HB7.out.size))
  have hs8 : w7.heap.size ≤ w8.heap.size := hb.size
  have HXa0_8 := hide (blk_below hb (by omega) HXa0_7.out)
  clear HXa0_7
  have HXW0_8 := hide (blk_below hb (by omega) HXW0_7.out)
  clear HXW0_7
  have HXx0_8 := hide (blk_below hb (by omega) HXx0_7.out)
  clear HXx0_7
  have HOW0a_8 := hide (HOW0a_7.out.below hb)
  clear HOW0a_7
  have HOW0b_8 := hide (HOW0b_7.out.below hb)
  clear HOW0b_7
  have HOW0c_8 := hide (HOW0c_7.out.below hb)
  clear HOW0c_7
  have HOx0_a_8 := hide (HOx0_a_7.out.below hb)
  clear HOx0_a_7
  have HOx0_b_8 := hide (HOx0_b_7.out.below hb)
  clear HOx0_b_7
  have HOx0_c_8 := hide (HOx0_c_7.out.below hb)
  clear HOx0_c_7
  have HOR0a_8 := hide (HOR0a_7.out.below hb)
  clear HOR0a_7
  have HOR0b_8 := hide (HOR0b_7.out.below hb)
  clear HOR0b_7
  have HOR0c_8 := hide (HOR0c_7.out.below hb)
  clear HOR0c_7
  clear hb
  have kR0_0 := Joins.cell_of_block HXR0_8.out 0
  simp at kR0_0
  have kR0_1 := Joins.cell_of_block HXR0_8.out 1
  simp at kR0_1
  have kR0_2 := Joins.cell_of_block HXR0_8.out 2
  simp at kR0_2
  have iR0_0 := kR0_0
  rw [HW.out] at iR0_0
  have iR0_1 := kR0_1
  rw [HW.out] at iR0_1
  have iR0_2 := kR0_2
  rw [HW.out] at iR0_2
  have kW0_0 := Joins.cell_of_block HXW0_8.out 0
  simp at kW0_0
  have kW0_1 := Joins.cell_of_block HXW0_8.out 1
  simp at kW0_1
  have kW0_2 := Joins.cell_of_block HXW0_8.out 2
  simp at kW0_2
  have iW0_0 := kW0_0
  rw [HW.out] at iW0_0
  have iW0_1 := kW0_1
  rw [HW.out] at iW0_1
  have iW0_2 := kW0_2
  rw [HW.out] at iW0_2
  go_wp2_with fail
  rw [← HW.out]
  clear HW
  clear iR0_0 iR0_1 iR0_2 iW0_0 iW0_1 iW0_2
  refine (eqPpl_any _ _ LN _ _ R0az W0az _ _ LN _ _ R0bz W0bz _ _ LN _ _ R0cz W0cz _ (by unfold maxLen; omega) HOR0a_8.out.sl HOW0a_8.out.sl (fun j hj => (HZR0a.out j hj).trans (HZW0a.out j hj).symm) (by unfold maxLen; omega) HOR0b_8.out.sl HOW0b_8.out.sl (fun j hj => (HZR0b.out j hj).trans (HZW0b.out j hj).symm) (by unfold maxLen; omega) HOR0c_8.out.sl HOW0c_8.out.sl (fun j hj => (HZR0c.out j hj).trans (HZW0c.out j hj).symm)).mono ?_
  rintro e w9 ⟨rfl, hb⟩
  have HB9 := hide (HB8.out.trans (hb.mono HB8.out.size))
  have hs9 : w8.heap.size ≤ w9.heap.size := hb.size
  have HXa0_9 := hide (blk_below hb (by omega) HXa0_8.out)
  clear HXa0_8
  have HXW0_9 := hide (blk_below hb (by omega) HXW0_8.out)
  clear HXW0_8
  have HXx0_9 := hide (blk_below hb (by omega) HXx0_8.out)
  clear HXx0_8
  have HXR0_9 := hide (blk_below hb (by omega) HXR0_8.out)
  clear HXR0_8
  have HOW0a_9 := hide (HOW0a_8.out.below hb)
  clear HOW0a_8
  have HOW0b_9 := hide (HOW0b_8.out.below hb)
  clear HOW0b_8
  have HOW0c_9 := hide (HOW0c_8.out.below hb)
  clear HOW0c_8
  have HOx0_a_9 := hide (HOx0_a_8.out.below hb)
  clear HOx0_a_8
  have HOx0_b_9 := hide (HOx0_b_8.out.below hb)
  clear HOx0_b_8
  have HOx0_c_9 := hide (HOx0_c_8.out.below hb)
  clear HOx0_c_8
  have HOR0a_9 := hide (HOR0a_8.out.below hb)
  clear HOR0a_8
  have HOR0b_9 := hide (HOR0b_8.out.below hb)
  clear HOR0b_8
  have HOR0c_9 := hide (HOR0c_8.out.below hb)
  clear HOR0c_8
  clear hb
  clear kR0_0 kR0_1 kR0_2 kW0_0 kW0_1 kW0_2
  have ka0p := Joins.cell_of_block HXa0_9.out 0
  have kx0p := Joins.cell_of_block HXx0_9.out 0
  simp at ka0p kx0p
  have ka1p := Joins.cell_of_block HXa0_9.out 1
  have kx1p := Joins.cell_of_block HXx0_9.out 1
  simp at ka1p kx1p
  have ka2p := Joins.cell_of_block HXa0_9.out 2
  have kx2p := Joins.cell_of_block HXx0_9.out 2
  simp at ka2p kx2p
  have GSa := hide (HS0a.out.below HB9.out)
  have GSb := hide (HS0b.out.below HB9.out)
  have GSc := hide (HS0c.out.below HB9.out)
  go_wp2_with fail
  go_region_held3 (fun w' => w'.cell? ⟨w5.heap.size, 0, none⟩ = some (.slice (some ⟨gx0_a, 0, none⟩) n0a n0a) ∧ w'.cell? ⟨w5.heap.size, 1, none⟩ = some (.slice (some ⟨gx0_b, 0, none⟩) n0b n0b) ∧ w'.cell? ⟨w5.heap.size, 2, none⟩ = some (.slice (some ⟨gx0_c, 0, none⟩) n0c n0c) ∧ w'.cell? ⟨w.heap.size, 0, none⟩ = some (.slice A0a n0a c0a) ∧ w'.cell? ⟨w.heap.size, 1, none⟩ = some (.slice A0b n0b c0b) ∧ w'.cell? ⟨w.heap.size, 2, none⟩ = some (.slice A0c n0c c0c)) ((first | exact ⟨kx0p, kx1p, kx2p, ka0p, ka1p, ka2p⟩ | exact ⟨kx0q, kx1q, kx2q, ka0q, ka1q, ka2q⟩ | exact ⟨kx0r, kx1r, kx2r, ka0r, ka1r, ka2r⟩)) (first
    | (go_at_call 31; refine (toPplW_any A0a n0a c0a x0a A0b n0b c0b x0b A0c n0c c0c x0c _ hn0a (by exact GSa.out) hn0b (by exact GSb.out) hn0c (by exact GSc.out)).mono ?_; rintro e w10 ⟨_, _, _, _, _, _, _, _, _, rfl, ht1, ht2, ht3, _, _, _, _, _, _, _, hb⟩; replace hb : Below w9.heap.size w9 w10 := ⟨hb.os, hb.tape, hb.output, hb.size, hb.block⟩; have hs10 : w9.heap.size ≤ w10.heap.size := hb.size; have HB10 := hide (HB9.out.trans (hb.mono HB9.out.size)); have HT1 := hide ht1.sl; have HT2 := hide ht2.sl; have HT3 := hide ht3.sl; have HXa0_10 := hide (blk_below hb (by omega) HXa0_9.out); have HXW0_10 := hide (blk_below hb (by omega) HXW0_9.out); have HXx0_10 := hide (blk_below hb (by omega) HXx0_9.out); have HXR0_10 := hide (blk_below hb (by omega) HXR0_9.out); have HOW0a_10 := hide (HOW0a_9.out.below hb); have HOW0b_10 := hide (HOW0b_9.out.below hb); have HOW0c_10 := hide (HOW0c_9.out.below hb); have HOx0_a_10 := hide (HOx0_a_9.out.below hb); have HOx0_b_10 := hide (HOx0_b_9.out.below hb); have HOx0_c_10 := hide (HOx0_c_9.out.below hb); have HOR0a_10 := hide (HOR0a_9.out.below hb); have HOR0b_10 := hide (HOR0b_9.out.below hb); have HOR0c_10 := hide (HOR0c_9.out.below hb); have ka0q := Joins.cell_of_block HXa0_10.out 0; have kx0q := Joins.cell_of_block HXx0_10.out 0; simp at ka0q kx0q; have ka1q := Joins.cell_of_block HXa0_10.out 1; have kx1q := Joins.cell_of_block HXx0_10.out 1; simp at ka1q kx1q; have ka2q := Joins.cell_of_block HXa0_10.out 2; have kx2q := Joins.cell_of_block HXx0_10.out 2; simp at ka2q kx2q; clear hb ht1 ht2 ht3)
    | (go_at_call 33; refine (eqPpl_any _ _ n0a n0a n0a x0a x0a _ _ n0b n0b n0b x0b x0b _ _ n0c n0c n0c x0c x0c _ hm0a (by exact HOx0_a_10.out.sl) (by exact HT1.out) (fun _ _ => FS.refl _ _) hm0b (by exact HOx0_b_10.out.sl) (by exact HT2.out) (fun _ _ => FS.refl _ _) hm0c (by exact HOx0_c_10.out.sl) (by exact HT3.out) (fun _ _ => FS.refl _ _)).mono ?_; rintro e w11 ⟨rfl, hb⟩; replace hb : Below w10.heap.size w10 w11 := ⟨hb.os, hb.tape, hb.output, hb.size, hb.block⟩; have hs11 : w10.heap.size ≤ w11.heap.size := hb.size; have HB11 := hide (HB10.out.trans (hb.mono HB10.out.size)); have HXa0_11 := hide (blk_below hb (by omega) HXa0_10.out); have HXW0_11 := hide (blk_below hb (by omega) HXW0_10.out); have HXx0_11 := hide (blk_below hb (by omega) HXx0_10.out); have HXR0_11 := hide (blk_below hb (by omega) HXR0_10.out); have HOW0a_11 := hide (HOW0a_10.out.below hb); have HOW0b_11 := hide (HOW0b_10.out.below hb); have HOW0c_11 := hide (HOW0c_10.out.below hb); have HOx0_a_11 := hide (HOx0_a_10.out.below hb); have HOx0_b_11 := hide (HOx0_b_10.out.below hb); have HOx0_c_11 := hide (HOx0_c_10.out.below hb); have HOR0a_11 := hide (HOR0a_10.out.below hb); have HOR0b_11 := hide (HOR0b_10.out.below hb); have HOR0c_11 := hide (HOR0c_10.out.below hb); have ka0r := Joins.cell_of_block HXa0_11.out 0; have kx0r := Joins.cell_of_block HXx0_11.out 0; simp at ka0r kx0r; have ka1r := Joins.cell_of_block HXa0_11.out 1; have kx1r := Joins.cell_of_block HXx0_11.out 1; simp at ka1r kx1r; have ka2r := Joins.cell_of_block HXa0_11.out 2; have kx2r := Joins.cell_of_block HXx0_11.out 2; simp at ka2r kx2r; clear hb))
  clear kx0p ka0p kx0q ka0q kx0r ka0r kx1p ka1p kx1q ka1q kx1r ka1r kx2p ka2p kx2q ka2q kx2r ka2r GSa GSb GSc HT1 HT2 HT3
  clear HXa0_9 HXa0_10 HXW0_9 HXW0_10 HXx0_9 HXx0_10 HXR0_9 HXR0_10 HOW0a_9 HOW0a_10 HOW0b_9 HOW0b_10 HOW0c_9 HOW0c_10 HOx0_a_9 HOx0_a_10 HOx0_b_9 HOx0_b_10 HOx0_c_9 HOx0_c_10 HOR0a_9 HOR0a_10 HOR0b_9 HOR0b_10 HOR0c_9 HOR0c_10
  have kx0_0 := Joins.cell_of_block HXx0_11.out 0
  simp at kx0_0
  have kx0_1 := Joins.cell_of_block HXx0_11.out 1
  simp at kx0_1
  have kx0_2 := Joins.cell_of_block HXx0_11.out 2
  simp at kx0_2
  go_wp2_with fail
  refine (markPpl_any _ n0a _ x0a _ n0b _ x0b _ n0c _ x0c lx0_a ux0_a lx0_b ux0_b lx0_c ux0_c lx0_a ux0_c (1) w11 hn0a hn0b hn0c (by omega) (by omega) (by omega) (by omega) HOx0_a_11.out HOx0_b_11.out HOx0_c_11.out).mono ?_
  rintro e w12 ⟨rfl, ho1, ho2, ho3, hw⟩
  have HNa := hide ho1
  clear ho1 HOx0_a_11
  have HNb := hide ho2
  clear ho2 HOx0_b_11
  have HNc := hide ho3
  clear ho3 HOx0_c_11
  have hs12 : w11.heap.size ≤ w12.heap.size := hw.size
  have HB12 := hide (HB11.out.trans (hw.bel (B := w.heap.size) (by omega) (by omega)))
  have HXa0_12 := hide (blk_marked hw (by omega) (by omega) HXa0_11.out)
  clear HXa0_11
  have HXW0_12 := hide (blk_marked hw (by omega) (by omega) HXW0_11.out)
  clear HXW0_11
  have HXx0_12 := hide (blk_marked hw (by omega) (by omega) HXx0_11.out)
  clear HXx0_11
  have HXR0_12 := hide (blk_marked hw (by omega) (by omega) HXR0_11.out)
  clear HXR0_11
  have HOW0a_12 := hide (HOW0a_11.out.marked hw (by omega))
  clear HOW0a_11
  have HOW0b_12 := hide (HOW0b_11.out.marked hw (by omega))
  clear HOW0b_11
  have HOW0c_12 := hide (HOW0c_11.out.marked hw (by omega))
  clear HOW0c_11
  have HOR0a_12 := hide (HOR0a_11.out.marked hw (by omega))
  clear HOR0a_11
  have HOR0b_12 := hide (HOR0b_11.out.marked hw (by omega))
  clear HOR0b_11
  have HOR0c_12 := hide (HOR0c_11.out.marked hw (by omega))
  clear HOR0c_11
  clear hw
  have HOx0_a_12 := HNa
  clear HNa
  have HOx0_b_12 := HNb
  clear HNb
  have HOx0_c_12 := HNc
  clear HNc
  clear kx0_0 kx0_1 kx0_2
  clear HOx0_a_12
  clear HOx0_b_12
  clear HOx0_c_12
  clear HXx0_12
  have kR0_0 := Joins.cell_of_block HXR0_12.out 0
  simp at kR0_0
  have kR0_1 := Joins.cell_of_block HXR0_12.out 1
  simp at kR0_1
  have kR0_2 := Joins.cell_of_block HXR0_12.out 2
  simp at kR0_2
  have kW0_0 := Joins.cell_of_block HXW0_12.out 0
  simp at kW0_0
  have kW0_1 := Joins.cell_of_block HXW0_12.out 1
  simp at kW0_1
  have kW0_2 := Joins.cell_of_block HXW0_12.out 2
  simp at kW0_2
  go_wp2_with fail
  refine (eqPpl_any _ _ LN _ _ R0az W0az _ _ LN _ _ R0bz W0bz _ _ LN _ _ R0cz W0cz _ (by unfold maxLen; omega) HOR0a_12.out.sl HOW0a_12.out.sl (fun j hj => (HZR0a.out j hj).trans (HZW0a.out j hj).symm) (by unfold maxLen; omega) HOR0b_12.out.sl HOW0b_12.out.sl (fun j hj => (HZR0b.out j hj).trans (HZW0b.out j hj).symm) (by unfold maxLen; omega) HOR0c_12.out.sl HOW0c_12.out.sl (fun j hj => (HZR0c.out j hj).trans (HZW0c.out j hj).symm)).mono ?_
  rintro e w13 ⟨rfl, hb⟩
  have HB13 := hide (HB12.out.trans (hb.mono HB12.out.size))
  have hs13 : w12.heap.size ≤ w13.heap.size := hb.size
  have HXa0_13 := hide (blk_below hb (by omega) HXa0_12.out)
  clear HXa0_12
  have HXW0_13 := hide (blk_below hb (by omega) HXW0_12.out)
  clear HXW0_12
  have HXR0_13 := hide (blk_below hb (by omega) HXR0_12.out)
  clear HXR0_12
  have HOW0a_13 := hide (HOW0a_12.out.below hb)
  clear HOW0a_12
  have HOW0b_13 := hide (HOW0b_12.out.below hb)
  clear HOW0b_12
  have HOW0c_13 := hide (HOW0c_12.out.below hb)
  clear HOW0c_12
  have HOR0a_13 := hide (HOR0a_12.out.below hb)
  clear HOR0a_12
  have HOR0b_13 := hide (HOR0b_12.out.below hb)
  clear HOR0b_12
  have HOR0c_13 := hide (HOR0c_12.out.below hb)
  clear HOR0c_12
  clear hb
  clear kR0_0 kR0_1 kR0_2 kW0_0 kW0_1 kW0_2
  have kR0_0 := Joins.cell_of_block HXR0_13.out 0
  simp at kR0_0
  have kR0_1 := Joins.cell_of_block HXR0_13.out 1
  simp at kR0_1
  have kR0_2 := Joins.cell_of_block HXR0_13.out 2
  simp at kR0_2
  go_wp2_with fail
  refine (markPpl_any _ LN _ R0az _ LN _ R0bz _ LN _ R0cz lR0a uR0a lR0b uR0b lR0c uR0c w6.heap.size w7.heap.size (1) w13 hM0 hM0 hM0 (by omega) (by omega) (by omega) (by omega) HOR0a_13.out HOR0b_13.out HOR0c_13.out).mono ?_
  rintro e w14 ⟨rfl, ho1, ho2, ho3, hw⟩
  have HNa := hide ho1
  clear ho1 HOR0a_13
  have HNb := hide ho2
  clear ho2 HOR0b_13
  have HNc := hide ho3
  clear ho3 HOR0c_13
  have hs14 : w13.heap.size ≤ w14.heap.size := hw.size
  have HB14 := hide (HB13.out.trans (hw.bel (B := w.heap.size) (by omega) (by omega)))
  have HXa0_14 := hide (blk_marked hw (by omega) (by omega) HXa0_13.out)
  clear HXa0_13
  have HXW0_14 := hide (blk_marked hw (by omega) (by omega) HXW0_13.out)
  clear HXW0_13
  have HXR0_14 := hide (blk_marked hw (by omega) (by omega) HXR0_13.out)
  clear HXR0_13
  have HOW0a_14 := hide (HOW0a_13.out.marked hw (by omega))
  clear HOW0a_13
  have HOW0b_14 := hide (HOW0b_13.out.marked hw (by omega))
  clear HOW0b_13
  have HOW0c_14 := hide (HOW0c_13.out.marked hw (by omega))
  clear HOW0c_13
  clear hw
  have HOR0a_14 := HNa
  clear HNa
  have HOR0b_14 := HNb
  clear HNb
  have HOR0c_14 := HNc
  clear HNc
  clear kR0_0 kR0_1 kR0_2
  have kR0_0 := Joins.cell_of_block HXR0_14.out 0
  simp at kR0_0
  have kR0_1 := Joins.cell_of_block HXR0_14.out 1
  simp at kR0_1
  have kR0_2 := Joins.cell_of_block HXR0_14.out 2
  simp at kR0_2
  go_wp2_with fail
  refine (heldPpl_any _ LN _ _ LN _ _ LN _ (1) w14 hM0 hM0 hM0 (by omega) (by omega) HOR0a_14.out.sl HOR0b_14.out.sl HOR0c_14.out.sl).mono ?_
  rintro e w15 ⟨rfl, hb⟩
  have HB15 := hide (HB14.out.trans (hb.mono HB14.out.size))
  have hs15 : w14.heap.size ≤ w15.heap.size := hb.size
  have HXa0_15 := hide (blk_below hb (by omega) HXa0_14.out)
  clear HXa0_14
  have HXW0_15 := hide (blk_below hb (by omega) HXW0_14.out)
  clear HXW0_14
  have HXR0_15 := hide (blk_below hb (by omega) HXR0_14.out)
  clear HXR0_14
  have HOW0a_15 := hide (HOW0a_14.out.below hb)
  clear HOW0a_14
  have HOW0b_15 := hide (HOW0b_14.out.below hb)
  clear HOW0b_14
  have HOW0c_15 := hide (HOW0c_14.out.below hb)
  clear HOW0c_14
  have HOR0a_15 := hide (HOR0a_14.out.below hb)
  clear HOR0a_14
  have HOR0b_15 := hide (HOR0b_14.out.below hb)
  clear HOR0b_14
  have HOR0c_15 := hide (HOR0c_14.out.below hb)
  clear HOR0c_14
  clear hb
  clear kR0_0 kR0_1 kR0_2
  have ka0_0 := Joins.cell_of_block HXa0_15.out 0
  simp at ka0_0
  have ka0_1 := Joins.cell_of_block HXa0_15.out 1
  simp at ka0_1
  have ka0_2 := Joins.cell_of_block HXa0_15.out 2
  simp at ka0_2
  go_wp2_with fail
  refine (toPplW_any A0a n0a c0a x0a A0b n0b c0b x0b A0c n0c c0c x0c _ hn0a (HS0a.out.below HB15.out) hn0b (HS0b.out.below HB15.out) hn0c (HS0c.out.below HB15.out)).mono ?_
  rintro e w16 ⟨gh0_a, gh0_b, gh0_c, lh0_a, uh0_a, lh0_b, uh0_b, lh0_c, uh0_c, rfl, ho1, ho2, ho3, e1h0_, e2h0_, e3h0_, e4h0_, e5h0_, e6h0_, e7h0_, hb⟩
  have HNa := hide ho1
  have HNb := hide ho2
  have HNc := hide ho3
  clear ho1 ho2 ho3
  have HB16 := hide (HB15.out.trans (hb.mono HB15.out.size))
  have hs16 : w15.heap.size ≤ w16.heap.size := hb.size
  have HXa0_16 := hide (blk_below hb (by omega) HXa0_15.out)
  clear HXa0_15
  have HXW0_16 := hide (blk_below hb (by omega) HXW0_15.out)
  clear HXW0_15
  have HXR0_16 := hide (blk_below hb (by omega) HXR0_15.out)
  clear HXR0_15
  have HOW0a_16 := hide (HOW0a_15.out.below hb)
  clear HOW0a_15
  have HOW0b_16 := hide (HOW0b_15.out.below hb)
  clear HOW0b_15
  have HOW0c_16 := hide (HOW0c_15.out.below hb)
  clear HOW0c_15
  have HOR0a_16 := hide (HOR0a_15.out.below hb)
  clear HOR0a_15
  have HOR0b_16 := hide (HOR0b_15.out.below hb)
  clear HOR0b_15
  have HOR0c_16 := hide (HOR0c_15.out.below hb)
  clear HOR0c_15
  clear hb
  have HOh0_a_16 := HNa
  clear HNa
  have HOh0_b_16 := HNb
  clear HNb
  have HOh0_c_16 := HNc
  clear HNc
  clear ka0_0 ka0_1 ka0_2
  go_wp2_with fail
  refine (implRunPpl_any _ n0a n0a x0a _ n0b n0b x0b _ n0c n0c x0c v1 w16 hm0a HOh0_a_16.out.sl hm0b HOh0_b_16.out.sl hm0c HOh0_c_16.out.sl).mono ?_
  rintro e w17 ⟨Q0a, Q0ad, Q0az, Q0b, Q0bd, Q0bz, Q0c, Q0cd, Q0cz, lQ0a, uQ0a, lQ0b, uQ0b, lQ0c, uQ0c, rfl, ho0a, ho0b, ho0c, hz0a, hz0b, hz0c, e1Q0, e2Q0, e3Q0, e4Q0, e5Q0, e6Q0, e7Q0, hb⟩
  (try rw [HLN.out])
  (try rw [HTB.out])
  (try rw [HLN.out] at ho0a)
  (try rw [HLN.out] at ho0b)
  (try rw [HLN.out] at ho0c)
  (try rw [HLN.out] at hz0a)
  (try rw [HLN.out] at hz0b)
  (try rw [HLN.out] at hz0c)
  (try rw [HTB.out] at ho0a)
  (try rw [HTB.out] at ho0b)
  (try rw [HTB.out] at ho0c)
  (try rw [HTB.out] at hz0a)
  (try rw [HTB.out] at hz0b)
  (try rw [HTB.out] at hz0c)
  have Qho0a := hide ho0a
  clear ho0a
  have Qho0b := hide ho0b
  clear ho0b
  have Qho0c := hide ho0c
  clear ho0c
  have Qhz0a := hide hz0a
  clear hz0a
  have Qhz0b := hide hz0b
  clear hz0b
  have Qhz0c := hide hz0c
  clear hz0c
  have HB17 := hide (HB16.out.trans (hb.mono HB16.out.size))
  have hs17 : w16.heap.size ≤ w17.heap.size := hb.size
  have HXa0_17 := hide (blk_below hb (by omega) HXa0_16.out)
  clear HXa0_16
  have HXW0_17 := hide (blk_below hb (by omega) HXW0_16.out)
  clear HXW0_16
  have HXR0_17 := hide (blk_below hb (by omega) HXR0_16.out)
  clear HXR0_16
  have HOW0a_17 := hide (HOW0a_16.out.below hb)
  clear HOW0a_16
  have HOW0b_17 := hide (HOW0b_16.out.below hb)
  clear HOW0b_16
  have HOW0c_17 := hide (HOW0c_16.out.below hb)
  clear HOW0c_16
  have HOR0a_17 := hide (HOR0a_16.out.below hb)
  clear HOR0a_16
  have HOR0b_17 := hide (HOR0b_16.out.below hb)
  clear HOR0b_16
  have HOR0c_17 := hide (HOR0c_16.out.below hb)
  clear HOR0c_16
  have HOh0_a_17 := hide (HOh0_a_16.out.below hb)
  clear HOh0_a_16
  have HOh0_b_17 := hide (HOh0_b_16.out.below hb)
  clear HOh0_b_16
  have HOh0_c_17 := hide (HOh0_c_16.out.below hb)
  clear HOh0_c_16
  clear hb
  have HOQ0a_17 := Qho0a
  have HZQ0a := Qhz0a
  clear Qho0a Qhz0a
  have HOQ0b_17 := Qho0b
  have HZQ0b := Qhz0b
  clear Qho0b Qhz0b
  have HOQ0c_17 := Qho0c
  have HZQ0c := Qhz0c
  clear Qho0c Qhz0c
  clear HOh0_a_17
  clear HOh0_b_17
  clear HOh0_c_17
  obtain ⟨w18, hwe⟩ : ∃ u, u = w17.alloc (.cells #[.slice Q0a LN Q0ad, .slice Q0b LN Q0bd, .slice Q0c LN Q0cd] 49) := ⟨_, rfl⟩
  have hb : Below w17.heap.size w17 w18 := by rw [hwe]; exact (Below.refl _ _).alloc (Nat.le_refl _) _
  have HXQ0_18 : Hid (w18.heap[w17.heap.size]? = some (.cells #[.slice Q0a LN Q0ad, .slice Q0b LN Q0bd, .slice Q0c LN Q0cd] 49)) := by rw [hwe]; exact blocks1 w17 _
  have hsb18 : w17.heap.size + 1 ≤ w18.heap.size := by rw [hwe]; simp
  have HW := hide hwe
  clear hwe
  have HB18 := hide (HB17.out.trans (hb.mono HB17.out.size))
  have hs18 : w17.heap.size ≤ w18.heap.size := hb.size
  have HXa0_18 := hide (blk_below hb (by omega) HXa0_17.out)
  clear HXa0_17
  have HXW0_18 := hide (blk_below hb (by omega) HXW0_17.out)
  clear HXW0_17
  have HXR0_18 := hide (blk_below hb (by omega) HXR0_17.out)
  clear HXR0_17
  have HOW0a_18 := hide (HOW0a_17.out.below hb)
  clear HOW0a_17
  have HOW0b_18 := hide (HOW0b_17.out.below hb)
  clear HOW0b_17
  have HOW0c_18 := hide (HOW0c_17.out.below hb)
  clear HOW0c_17
  have HOR0a_18 := hide (HOR0a_17.out.below hb)
  clear HOR0a_17
  have HOR0b_18 := hide (HOR0b_17.out.below hb)
  clear HOR0b_17
  have HOR0c_18 := hide (HOR0c_17.out.below hb)
  clear HOR0c_17
  have HOQ0a_18 := hide (HOQ0a_17.out.below hb)
  clear HOQ0a_17
  have HOQ0b_18 := hide (HOQ0b_17.out.below hb)
  clear HOQ0b_17
  have HOQ0c_18 := hide (HOQ0c_17.out.below hb)
  clear HOQ0c_17
  clear hb
  have kQ0_0 := Joins.cell_of_block HXQ0_18.out 0
  simp at kQ0_0
  have kQ0_1 := Joins.cell_of_block HXQ0_18.out 1
  simp at kQ0_1
  have kQ0_2 := Joins.cell_of_block HXQ0_18.out 2
  simp at kQ0_2
  have iQ0_0 := kQ0_0
  rw [HW.out] at iQ0_0
  have iQ0_1 := kQ0_1
  rw [HW.out] at iQ0_1
  have iQ0_2 := kQ0_2
  rw [HW.out] at iQ0_2
  have kW0_0 := Joins.cell_of_block HXW0_18.out 0
  simp at kW0_0
  have kW0_1 := Joins.cell_of_block HXW0_18.out 1
  simp at kW0_1
  have kW0_2 := Joins.cell_of_block HXW0_18.out 2
  simp at kW0_2
  have iW0_0 := kW0_0
  rw [HW.out] at iW0_0
  have iW0_1 := kW0_1
  rw [HW.out] at iW0_1
  have iW0_2 := kW0_2
  rw [HW.out] at iW0_2
  go_wp2_with fail
  rw [← HW.out]
  clear HW
  clear iQ0_0 iQ0_1 iQ0_2 iW0_0 iW0_1 iW0_2
  refine (eqPpl_any _ _ LN _ _ Q0az W0az _ _ LN _ _ Q0bz W0bz _ _ LN _ _ Q0cz W0cz _ (by unfold maxLen; omega) HOQ0a_18.out.sl HOW0a_18.out.sl (fun j hj => (HZQ0a.out j hj).trans (HZW0a.out j hj).symm) (by unfold maxLen; omega) HOQ0b_18.out.sl HOW0b_18.out.sl (fun j hj => (HZQ0b.out j hj).trans (HZW0b.out j hj).symm) (by unfold maxLen; omega) HOQ0c_18.out.sl HOW0c_18.out.sl (fun j hj => (HZQ0c.out j hj).trans (HZW0c.out j hj).symm)).mono ?_
  rintro e w19 ⟨rfl, hb⟩
  have HB19 := hide (HB18.out.trans (hb.mono HB18.out.size))
  have hs19 : w18.heap.size ≤ w19.heap.size := hb.size
  have HXa0_19 := hide (blk_below hb (by omega) HXa0_18.out)
  clear HXa0_18
  have HXW0_19 := hide (blk_below hb (by omega) HXW0_18.out)
  clear HXW0_18
  have HXR0_19 := hide (blk_below hb (by omega) HXR0_18.out)
  clear HXR0_18
  have HXQ0_19 := hide (blk_below hb (by omega) HXQ0_18.out)
  clear HXQ0_18
  have HOW0a_19 := hide (HOW0a_18.out.below hb)
  clear HOW0a_18
  have HOW0b_19 := hide (HOW0b_18.out.below hb)
  clear HOW0b_18
  have HOW0c_19 := hide (HOW0c_18.out.below hb)
  clear HOW0c_18
  have HOR0a_19 := hide (HOR0a_18.out.below hb)
  clear HOR0a_18
  have HOR0b_19 := hide (HOR0b_18.out.below hb)
  clear HOR0b_18
  have HOR0c_19 := hide (HOR0c_18.out.below hb)
  clear HOR0c_18
  have HOQ0a_19 := hide (HOQ0a_18.out.below hb)
  clear HOQ0a_18
  have HOQ0b_19 := hide (HOQ0b_18.out.below hb)
  clear HOQ0b_18
  have HOQ0c_19 := hide (HOQ0c_18.out.below hb)
  clear HOQ0c_18
  clear hb
  clear kQ0_0 kQ0_1 kQ0_2 kW0_0 kW0_1 kW0_2
  have kR0_0 := Joins.cell_of_block HXR0_19.out 0
  simp at kR0_0
  have kR0_1 := Joins.cell_of_block HXR0_19.out 1
  simp at kR0_1
  have kR0_2 := Joins.cell_of_block HXR0_19.out 2
  simp at kR0_2
  go_wp2_with fail
  refine (heldPpl_any _ LN _ _ LN _ _ LN _ (1) w19 hM0 hM0 hM0 (by omega) (by omega) HOR0a_19.out.sl HOR0b_19.out.sl HOR0c_19.out.sl).mono ?_
  rintro e w20 ⟨rfl, hb⟩
  have HB20 := hide (HB19.out.trans (hb.mono HB19.out.size))
  have hs20 : w19.heap.size ≤ w20.heap.size := hb.size
  have HXa0_20 := hide (blk_below hb (by omega) HXa0_19.out)
  clear HXa0_19
  have HXW0_20 := hide (blk_below hb (by omega) HXW0_19.out)
  clear HXW0_19
  have HXR0_20 := hide (blk_below hb (by omega) HXR0_19.out)
  clear HXR0_19
  have HXQ0_20 := hide (blk_below hb (by omega) HXQ0_19.out)
  clear HXQ0_19
  have HOW0a_20 := hide (HOW0a_19.out.below hb)
  clear HOW0a_19
  have HOW0b_20 := hide (HOW0b_19.out.below hb)
  clear HOW0b_19
  have HOW0c_20 := hide (HOW0c_19.out.below hb)
  clear HOW0c_19
  have HOR0a_20 := hide (HOR0a_19.out.below hb)
  clear HOR0a_19
  have HOR0b_20 := hide (HOR0b_19.out.below hb)
  clear HOR0b_19
  have HOR0c_20 := hide (HOR0c_19.out.below hb)
  clear HOR0c_19
  have HOQ0a_20 := hide (HOQ0a_19.out.below hb)
  clear HOQ0a_19
  have HOQ0b_20 := hide (HOQ0b_19.out.below hb)
  clear HOQ0b_19
  have HOQ0c_20 := hide (HOQ0c_19.out.below hb)
  clear HOQ0c_19
  clear hb
  clear kR0_0 kR0_1 kR0_2
  go_wp2_with fail
  go_ret
  exact ⟨rfl, HB20.out⟩
end Go.Proofs.Ytjebkagbknmdoaa
