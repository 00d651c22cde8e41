/- The law FnExactLifeLeft, walked. -/
import Derived.Test.YtjebkagbknmdoaaLs8
import Derived.Test.YtjebkagbknmdoaaLi8
import Derived.Test.YtjebkagbknmdoaaMp8
import Derived.Test.YtjebkagbknmdoaaRow
import Derived.Deep.RegionHeld3
namespace Go.Proofs.Ytjebkagbknmdoaa
open Go.RowKit Go.Dues
set_option maxRecDepth 100000 in
set_option maxHeartbeats 8000000 in
theorem lawLifeLeft_any (A0a : Option Addr) (n0a c0a : Nat) (x0a : Nat → Nat) (A0b : Option Addr) (n0b c0b : Nat) (x0b : Nat → Nat) (A0c : Option Addr) (n0c c0c : Nat) (x0c : Nat → Nat) (w : World) (hm0a : n0a ≤ maxLen) (hs0a : SL w A0a n0a (fun j => .float .f32 (x0a j))) (hm0b : n0b ≤ maxLen) (hs0b : SL w A0b n0b (fun j => .float .f32 (x0b j))) (hm0c : n0c ≤ maxLen) (hs0c : SL w A0c n0c (fun j => .float .f32 (x0c j))) :
    Calls Try.prog 6 #[.agg #[.slice A0a n0a c0a, .slice A0b n0b c0b, .slice A0c n0c c0c]] w fun e w' => e = .returned (.bool true) ∧ Below w.heap.size w w' := by
  skip
  have HS0a := hide hs0a
  clear hs0a
  have HS0b := hide hs0b
  clear hs0b
  have HS0c := hide hs0c
  clear hs0c
  obtain ⟨w0, hw0⟩ : ∃ u, u = (w.alloc (.cells #[.slice A0a n0a c0a, .slice A0b n0b c0b, .slice A0c n0c c0c] 47)) := ⟨_, rfl⟩
  have HB0 : Hid (Below w.heap.size w w0) := by rw [hw0]; exact ((Below.refl w.heap.size w).alloc (Nat.le_refl _) (.cells #[.slice A0a n0a c0a, .slice A0b n0b c0b, .slice A0c n0c c0c] 47))
  have HXa0_0 : Hid (w0.heap[w.heap.size]? = some (.cells #[.slice A0a n0a c0a, .slice A0b n0b c0b, .slice A0c n0c c0c] 47)) := by rw [hw0]; exact blocks1 w _
  have hs0 : w.heap.size + 1 ≤ w0.heap.size := by rw [hw0]; simp
  have HW := hide hw0
  clear hw0
  go_enter Try.func6, Try.ntmps6
  have ka0_0 := Joins.cell_of_block HXa0_0.out 0
  simp at ka0_0
  have ka0_1 := Joins.cell_of_block HXa0_0.out 1
  simp at ka0_1
  have ka0_2 := Joins.cell_of_block HXa0_0.out 2
  simp at ka0_2
  have ia0_0 := ka0_0
  rw [HW.out] at ia0_0
  have ia0_1 := ka0_1
  rw [HW.out] at ia0_1
  have ia0_2 := ka0_2
  rw [HW.out] at ia0_2
  go_wp2_with fail
  rw [← HW.out]
  clear HW
  clear ia0_0 ia0_1 ia0_2
  refine (szPpl_any A0a n0a c0a A0b n0b c0b A0c n0c c0c 1048576 _ hm0a hm0b hm0c (by omega) (by omega)).mono ?_
  rintro e w1 ⟨m0, rfl, hm, hb⟩
  have HB1 := hide (HB0.out.trans (hb.mono HB0.out.size))
  have hs1 : w0.heap.size ≤ w1.heap.size := hb.size
  have HXa0_1 := hide (blk_below hb (by omega) HXa0_0.out)
  clear HXa0_0
  clear hb
  clear ka0_0 ka0_1 ka0_2
  rcases hm with ⟨hl0, hu0, hn0a, hn0b, hn0c⟩ | rfl
  rotate_left
  · go_wp2
    go_ret
    exact ⟨rfl, HB1.out⟩
  obtain ⟨LN, hLN⟩ : ∃ q, lenV (llP x0a n0a x0b n0b x0c n0c) n0a = q := ⟨_, rfl⟩
  obtain ⟨TB, hTB⟩ : ∃ q, tru (llP x0a n0a x0b n0b x0c n0c) = q := ⟨_, rfl⟩
  have hM0 : LN ≤ 1048576 := by rw [← hLN]; exact (Nat.le_trans (lenV_le _ _) hn0a)
  have HLN := hide hLN
  clear hLN
  have HTB := hide hTB
  clear hTB
  have ka0_0 := Joins.cell_of_block HXa0_1.out 0
  simp at ka0_0
  have ka0_1 := Joins.cell_of_block HXa0_1.out 1
  simp at ka0_1
  have ka0_2 := Joins.cell_of_block HXa0_1.out 2
  simp at ka0_2
  go_wp2_with fail
  refine (toPplW_any A0a n0a c0a x0a A0b n0b c0b x0b A0c n0c c0c x0c _ hn0a (HS0a.out.below HB1.out) hn0b (HS0b.out.below HB1.out) hn0c (HS0c.out.below HB1.out)).mono ?_
  rintro e w2 ⟨gs0_a, gs0_b, gs0_c, ls0_a, us0_a, ls0_b, us0_b, ls0_c, us0_c, rfl, ho1, ho2, ho3, e1s0_, e2s0_, e3s0_, e4s0_, e5s0_, e6s0_, e7s0_, hb⟩
  have HNa := hide ho1
  have HNb := hide ho2
  have HNc := hide ho3
  clear ho1 ho2 ho3
  have HB2 := hide (HB1.out.trans (hb.mono HB1.out.size))
  have hs2 : w1.heap.size ≤ w2.heap.size := hb.size
  have HXa0_2 := hide (blk_below hb (by omega) HXa0_1.out)
  clear HXa0_1
  clear hb
  have HOs0_a_2 := HNa
  clear HNa
  have HOs0_b_2 := HNb
  clear HNb
  have HOs0_c_2 := HNc
  clear HNc
  clear ka0_0 ka0_1 ka0_2
  go_wp2_with fail
  refine (specLife_any _ n0a n0a x0a _ n0b n0b x0b _ n0c n0c x0c w2 hm0a HOs0_a_2.out.sl hm0b HOs0_b_2.out.sl hm0c HOs0_c_2.out.sl).mono ?_
  rintro e w3 ⟨W0, W0d, W0z, rfl, ho0, hz0, hb⟩
  (try rw [HLN.out])
  (try rw [HTB.out])
  (try rw [HLN.out] at ho0)
  (try rw [HLN.out] at hz0)
  (try rw [HTB.out] at ho0)
  (try rw [HTB.out] at hz0)
  have Qho0 := hide ho0
  clear ho0
  have Qhz0 := hide hz0
  clear hz0
  have HB3 := hide (HB2.out.trans (hb.mono HB2.out.size))
  have hs3 : w2.heap.size ≤ w3.heap.size := hb.size
  have HXa0_3 := hide (blk_below hb (by omega) HXa0_2.out)
  clear HXa0_2
  have HOs0_a_3 := hide (HOs0_a_2.out.below hb)
  clear HOs0_a_2
  have HOs0_b_3 := hide (HOs0_b_2.out.below hb)
  clear HOs0_b_2
  have HOs0_c_3 := hide (HOs0_c_2.out.below hb)
  clear HOs0_c_2
  clear hb
  have HOW0_3 := Qho0
  clear Qho0
  have HZW0 := Qhz0
  clear Qhz0
  clear HOs0_a_3
  clear HOs0_b_3
  clear HOs0_c_3
  have ka0_0 := Joins.cell_of_block HXa0_3.out 0
  simp at ka0_0
  have ka0_1 := Joins.cell_of_block HXa0_3.out 1
  simp at ka0_1
  have ka0_2 := Joins.cell_of_block HXa0_3.out 2
  simp at ka0_2
  go_wp2_with fail
  refine (toPplW_any A0a n0a c0a x0a A0b n0b c0b x0b A0c n0c c0c x0c _ hn0a (HS0a.out.below HB3.out) hn0b (HS0b.out.below HB3.out) hn0c (HS0c.out.below HB3.out)).mono ?_
  rintro e w4 ⟨gx0_a, gx0_b, gx0_c, lx0_a, ux0_a, lx0_b, ux0_b, lx0_c, ux0_c, rfl, ho1, ho2, ho3, e1x0_, e2x0_, e3x0_, e4x0_, e5x0_, e6x0_, e7x0_, hb⟩
  have HNa := hide ho1
  have HNb := hide ho2
  have HNc := hide ho3
  clear ho1 ho2 ho3
  have HB4 := hide (HB3.out.trans (hb.mono HB3.out.size))
  have hs4 : w3.heap.size ≤ w4.heap.size := hb.size
  have HXa0_4 := hide (blk_below hb (by omega) HXa0_3.out)
  clear HXa0_3
  have HOW0_4 := hide (HOW0_3.out.below hb)
  clear HOW0_3
  clear hb
  have HOx0_a_4 := HNa
  clear HNa
  have HOx0_b_4 := HNb
  clear HNb
  have HOx0_c_4 := HNc
  clear HNc
  clear ka0_0 ka0_1 ka0_2
  obtain ⟨w5, hwe⟩ : ∃ u, u = w4.alloc (.cells #[.slice (some ⟨gx0_a, 0, none⟩) n0a n0a, .slice (some ⟨gx0_b, 0, none⟩) n0b n0b, .slice (some ⟨gx0_c, 0, none⟩) n0c n0c] 49) := ⟨_, rfl⟩
  have hb : Below w4.heap.size w4 w5 := by rw [hwe]; exact (Below.refl _ _).alloc (Nat.le_refl _) _
  have HXx0_5 : Hid (w5.heap[w4.heap.size]? = some (.cells #[.slice (some ⟨gx0_a, 0, none⟩) n0a n0a, .slice (some ⟨gx0_b, 0, none⟩) n0b n0b, .slice (some ⟨gx0_c, 0, none⟩) n0c n0c] 49)) := by rw [hwe]; exact blocks1 w4 _
  have hsb5 : w4.heap.size + 1 ≤ w5.heap.size := by rw [hwe]; simp
  have HW := hide hwe
  clear hwe
  have HB5 := hide (HB4.out.trans (hb.mono HB4.out.size))
  have hs5 : w4.heap.size ≤ w5.heap.size := hb.size
  have HXa0_5 := hide (blk_below hb (by omega) HXa0_4.out)
  clear HXa0_4
  have HOW0_5 := hide (HOW0_4.out.below hb)
  clear HOW0_4
  have HOx0_a_5 := hide (HOx0_a_4.out.below hb)
  clear HOx0_a_4
  have HOx0_b_5 := hide (HOx0_b_4.out.below hb)
  clear HOx0_b_4
  have HOx0_c_5 := hide (HOx0_c_4.out.below hb)
  clear HOx0_c_4
  clear hb
  have kx0_0 := Joins.cell_of_block HXx0_5.out 0
  simp at kx0_0
  have kx0_1 := Joins.cell_of_block HXx0_5.out 1
  simp at kx0_1
  have kx0_2 := Joins.cell_of_block HXx0_5.out 2
  simp at kx0_2
  have ix0_0 := kx0_0
  rw [HW.out] at ix0_0
  have ix0_1 := kx0_1
  rw [HW.out] at ix0_1
  have ix0_2 := kx0_2
  rw [HW.out] at ix0_2
  go_wp2_with fail
  rw [← HW.out]
  clear HW
  clear ix0_0 ix0_1 ix0_2
  refine (implLife7_any _ n0a n0a x0a _ n0b n0b x0b _ n0c n0c x0c w5 hm0a HOx0_a_5.out.sl hm0b HOx0_b_5.out.sl hm0c HOx0_c_5.out.sl).mono ?_
  rintro e w6 ⟨R0, R0d, R0z, rfl, ho0, hz0, hb⟩
  (try rw [HLN.out])
  (try rw [HTB.out])
  (try rw [HLN.out] at ho0)
  (try rw [HLN.out] at hz0)
  (try rw [HTB.out] at ho0)
  (try rw [HTB.out] at hz0)
  have Qho0 := hide ho0
  clear ho0
  have Qhz0 := hide hz0
  clear hz0
  have HB6 := hide (HB5.out.trans (hb.mono HB5.out.size))
  have hs6 : w5.heap.size ≤ w6.heap.size := hb.size
  have HXa0_6 := hide (blk_below hb (by omega) HXa0_5.out)
  clear HXa0_5
  have HXx0_6 := hide (blk_below hb (by omega) HXx0_5.out)
  clear HXx0_5
  have HOW0_6 := hide (HOW0_5.out.below hb)
  clear HOW0_5
  have HOx0_a_6 := hide (HOx0_a_5.out.below hb)
  clear HOx0_a_5
  have HOx0_b_6 := hide (HOx0_b_5.out.below hb)
  clear HOx0_b_5
  have HOx0_c_6 := hide (HOx0_c_5.out.below hb)
  clear HOx0_c_5
  clear hb
  clear kx0_0 kx0_1 kx0_2
  have HOR0_6 := Qho0
  clear Qho0
  have HZR0 := Qhz0
  clear Qhz0
  go_wp2_with fail
  refine (eqFl_any _ _ LN _ _ R0z W0z _ (by unfold maxLen; omega) HOR0_6.out.sl HOW0_6.out.sl (fun j hj => (HZR0.out j hj).trans (HZW0.out j hj).symm)).mono ?_
  rintro e w7 ⟨rfl, q, hq⟩
  have hb : Below w6.heap.size w6 w7 := by rw [hq]; first | exact bel_q (Below.refl _ _) _ | exact bel_q (bel_q (Below.refl _ _) _) _
  clear hq
  have HB7 := hide (HB6.out.trans (hb.mono HB6.out.size))
  have hs7 : w6.heap.size ≤ w7.heap.size := hb.size
  have HXa0_7 := hide (blk_below hb (by omega) HXa0_6.out)
  clear HXa0_6
  have HXx0_7 := hide (blk_below hb (by omega) HXx0_6.out)
  clear HXx0_6
  have HOW0_7 := hide (HOW0_6.out.below hb)
  clear HOW0_6
  have HOx0_a_7 := hide (HOx0_a_6.out.below hb)
  clear HOx0_a_6
  have HOx0_b_7 := hide (HOx0_b_6.out.below hb)
  clear HOx0_b_6
  have HOx0_c_7 := hide (HOx0_c_6.out.below hb)
  clear HOx0_c_6
  have HOR0_7 := hide (HOR0_6.out.below hb)
  clear HOR0_6
  clear hb
  have ka0p := Joins.cell_of_block HXa0_7.out 0
  have kx0p := Joins.cell_of_block HXx0_7.out 0
  simp at ka0p kx0p
  have ka1p := Joins.cell_of_block HXa0_7.out 1
  have kx1p := Joins.cell_of_block HXx0_7.out 1
  simp at ka1p kx1p
  have ka2p := Joins.cell_of_block HXa0_7.out 2
  have kx2p := Joins.cell_of_block HXx0_7.out 2
  simp at ka2p kx2p
  have GSa := hide (HS0a.out.below HB7.out)
  have GSb := hide (HS0b.out.below HB7.out)
  have GSc := hide (HS0c.out.below HB7.out)
  go_wp2_with fail
  go_region_held3 (fun w' => w'.cell? ⟨w4.heap.size, 0, none⟩ = some (.slice (some ⟨gx0_a, 0, none⟩) n0a n0a) ∧ w'.cell? ⟨w4.heap.size, 1, none⟩ = some (.slice (some ⟨gx0_b, 0, none⟩) n0b n0b) ∧ w'.cell? ⟨w4.heap.size, 2, none⟩ = some (.slice (some ⟨gx0_c, 0, none⟩) n0c n0c) ∧ w'.cell? ⟨w.heap.size, 0, none⟩ = some (.slice A0a n0a c0a) ∧ w'.cell? ⟨w.heap.size, 1, none⟩ = some (.slice A0b n0b c0b) ∧ w'.cell? ⟨w.heap.size, 2, none⟩ = some (.slice A0c n0c c0c)) ((first | exact ⟨kx0p, kx1p, kx2p, ka0p, ka1p, ka2p⟩ | exact ⟨kx0q, kx1q, kx2q, ka0q, ka1q, ka2q⟩ | exact ⟨kx0r, kx1r, kx2r, ka0r, ka1r, ka2r⟩)) (first
    | (go_at_call 31; refine (toPplW_any A0a n0a c0a x0a A0b n0b c0b x0b A0c n0c c0c x0c _ hn0a (by exact GSa.out) hn0b (by exact GSb.out) hn0c (by exact GSc.out)).mono ?_; rintro e w8 ⟨_, _, _, _, _, _, _, _, _, rfl, ht1, ht2, ht3, _, _, _, _, _, _, _, hb⟩; replace hb : Below w7.heap.size w7 w8 := ⟨hb.os, hb.tape, hb.output, hb.size, hb.block⟩; have hs8 : w7.heap.size ≤ w8.heap.size := hb.size; have HB8 := hide (HB7.out.trans (hb.mono HB7.out.size)); have HT1 := hide ht1.sl; have HT2 := hide ht2.sl; have HT3 := hide ht3.sl; have HXa0_8 := hide (blk_below hb (by omega) HXa0_7.out); have HXx0_8 := hide (blk_below hb (by omega) HXx0_7.out); have HOW0_8 := hide (HOW0_7.out.below hb); have HOx0_a_8 := hide (HOx0_a_7.out.below hb); have HOx0_b_8 := hide (HOx0_b_7.out.below hb); have HOx0_c_8 := hide (HOx0_c_7.out.below hb); have HOR0_8 := hide (HOR0_7.out.below hb); have ka0q := Joins.cell_of_block HXa0_8.out 0; have kx0q := Joins.cell_of_block HXx0_8.out 0; simp at ka0q kx0q; have ka1q := Joins.cell_of_block HXa0_8.out 1; have kx1q := Joins.cell_of_block HXx0_8.out 1; simp at ka1q kx1q; have ka2q := Joins.cell_of_block HXa0_8.out 2; have kx2q := Joins.cell_of_block HXx0_8.out 2; simp at ka2q kx2q; clear hb ht1 ht2 ht3)
    | (go_at_call 33; refine (eqPpl_any _ _ n0a n0a n0a x0a x0a _ _ n0b n0b n0b x0b x0b _ _ n0c n0c n0c x0c x0c _ hm0a (by exact HOx0_a_8.out.sl) (by exact HT1.out) (fun _ _ => FS.refl _ _) hm0b (by exact HOx0_b_8.out.sl) (by exact HT2.out) (fun _ _ => FS.refl _ _) hm0c (by exact HOx0_c_8.out.sl) (by exact HT3.out) (fun _ _ => FS.refl _ _)).mono ?_; rintro e w9 ⟨rfl, hb⟩; replace hb : Below w8.heap.size w8 w9 := ⟨hb.os, hb.tape, hb.output, hb.size, hb.block⟩; have hs9 : w8.heap.size ≤ w9.heap.size := hb.size; have HB9 := hide (HB8.out.trans (hb.mono HB8.out.size)); have HXa0_9 := hide (blk_below hb (by omega) HXa0_8.out); have HXx0_9 := hide (blk_below hb (by omega) HXx0_8.out); have HOW0_9 := hide (HOW0_8.out.below hb); have HOx0_a_9 := hide (HOx0_a_8.out.below hb); have HOx0_b_9 := hide (HOx0_b_8.out.below hb); have HOx0_c_9 := hide (HOx0_c_8.out.below hb); have HOR0_9 := hide (HOR0_8.out.below hb); have ka0r := Joins.cell_of_block HXa0_9.out 0; have kx0r := Joins.cell_of_block HXx0_9.out 0; simp at ka0r kx0r; have ka1r := Joins.cell_of_block HXa0_9.out 1; have kx1r := Joins.cell_of_block HXx0_9.out 1; simp at ka1r kx1r; have ka2r := Joins.cell_of_block HXa0_9.out 2; have kx2r := Joins.cell_of_block HXx0_9.out 2; simp at ka2r kx2r; clear hb))
  clear kx0p ka0p kx0q ka0q kx0r ka0r kx1p ka1p kx1q ka1q kx1r ka1r kx2p ka2p kx2q ka2q kx2r ka2r GSa GSb GSc HT1 HT2 HT3
  clear HXa0_7 HXa0_8 HXx0_7 HXx0_8 HOW0_7 HOW0_8 HOx0_a_7 HOx0_a_8 HOx0_b_7 HOx0_b_8 HOx0_c_7 HOx0_c_8 HOR0_7 HOR0_8
  have kx0_0 := Joins.cell_of_block HXx0_9.out 0
  simp at kx0_0
  have kx0_1 := Joins.cell_of_block HXx0_9.out 1
  simp at kx0_1
  have kx0_2 := Joins.cell_of_block HXx0_9.out 2
  simp at kx0_2
  go_wp2_with fail
  refine (markPpl_any _ n0a _ x0a _ n0b _ x0b _ n0c _ x0c lx0_a ux0_a lx0_b ux0_b lx0_c ux0_c (1) w9 hn0a hn0b hn0c (by omega) (by omega) (by omega) (by omega) HOx0_a_9.out HOx0_b_9.out HOx0_c_9.out).mono ?_
  rintro e w10 ⟨rfl, ho1, ho2, ho3, hw⟩
  have HNa := hide ho1
  clear ho1 HOx0_a_9
  have HNb := hide ho2
  clear ho2 HOx0_b_9
  have HNc := hide ho3
  clear ho3 HOx0_c_9
  have hs10 : w9.heap.size ≤ w10.heap.size := hw.size
  have HB10 := hide (HB9.out.trans (hw.bel (B := w.heap.size) (by omega) (by omega)))
  have HXa0_10 := hide (blk_marked hw (by omega) (by omega) HXa0_9.out)
  clear HXa0_9
  have HXx0_10 := hide (blk_marked hw (by omega) (by omega) HXx0_9.out)
  clear HXx0_9
  have HOW0_10 := hide (HOW0_9.out.marked hw (by omega))
  clear HOW0_9
  have HOR0_10 := hide (HOR0_9.out.marked hw (by omega))
  clear HOR0_9
  clear hw
  have HOx0_a_10 := HNa
  clear HNa
  have HOx0_b_10 := HNb
  clear HNb
  have HOx0_c_10 := HNc
  clear HNc
  clear kx0_0 kx0_1 kx0_2
  clear HOx0_a_10
  clear HOx0_b_10
  clear HOx0_c_10
  clear HXx0_10
  go_wp2_with fail
  refine (eqFl_any _ _ LN _ _ R0z W0z _ (by unfold maxLen; omega) HOR0_10.out.sl HOW0_10.out.sl (fun j hj => (HZR0.out j hj).trans (HZW0.out j hj).symm)).mono ?_
  rintro e w11 ⟨rfl, q, hq⟩
  have hb : Below w10.heap.size w10 w11 := by rw [hq]; first | exact bel_q (Below.refl _ _) _ | exact bel_q (bel_q (Below.refl _ _) _) _
  clear hq
  have HB11 := hide (HB10.out.trans (hb.mono HB10.out.size))
  have hs11 : w10.heap.size ≤ w11.heap.size := hb.size
  have HXa0_11 := hide (blk_below hb (by omega) HXa0_10.out)
  clear HXa0_10
  have HOW0_11 := hide (HOW0_10.out.below hb)
  clear HOW0_10
  have HOR0_11 := hide (HOR0_10.out.below hb)
  clear HOR0_10
  clear hb
  go_wp2_with fail
  refine (markFl_any _ LN _ w5.heap.size w6.heap.size R0z (1) w11 hM0 (by omega) (by omega) HOR0_11.out).mono ?_
  rintro e w12 ⟨rfl, ho, hw⟩
  have HN := hide ho
  clear ho HOR0_11
  replace hw : Marked w5.heap.size w6.heap.size w11 w12 := marked_of hw
  have hs12 : w11.heap.size ≤ w12.heap.size := hw.size
  have HB12 := hide (HB11.out.trans (hw.bel (B := w.heap.size) (by omega) (by omega)))
  have HXa0_12 := hide (blk_marked hw (by omega) (by omega) HXa0_11.out)
  clear HXa0_11
  have HOW0_12 := hide (HOW0_11.out.marked hw (by omega))
  clear HOW0_11
  clear hw
  have HOR0_12 := HN
  clear HN
  go_wp2_with fail
  refine (heldFl_any _ LN _ (1) _ hM0 (by omega) (by omega) HOR0_12.out.sl).mono ?_
  rintro e w13 ⟨rfl, q, hq⟩
  have hb : Below w12.heap.size w12 w13 := by rw [hq]; first | exact bel_q (Below.refl _ _) _ | exact bel_q (bel_q (Below.refl _ _) _) _
  clear hq
  have HB13 := hide (HB12.out.trans (hb.mono HB12.out.size))
  have hs13 : w12.heap.size ≤ w13.heap.size := hb.size
  have HXa0_13 := hide (blk_below hb (by omega) HXa0_12.out)
  clear HXa0_12
  have HOW0_13 := hide (HOW0_12.out.below hb)
  clear HOW0_12
  have HOR0_13 := hide (HOR0_12.out.below hb)
  clear HOR0_12
  clear hb
  have ka0_0 := Joins.cell_of_block HXa0_13.out 0
  simp at ka0_0
  have ka0_1 := Joins.cell_of_block HXa0_13.out 1
  simp at ka0_1
  have ka0_2 := Joins.cell_of_block HXa0_13.out 2
  simp at ka0_2
  go_wp2_with fail
  refine (toPplW_any A0a n0a c0a x0a A0b n0b c0b x0b A0c n0c c0c x0c _ hn0a (HS0a.out.below HB13.out) hn0b (HS0b.out.below HB13.out) hn0c (HS0c.out.below HB13.out)).mono ?_
  rintro e w14 ⟨gh0_a, gh0_b, gh0_c, lh0_a, uh0_a, lh0_b, uh0_b, lh0_c, uh0_c, rfl, ho1, ho2, ho3, e1h0_, e2h0_, e3h0_, e4h0_, e5h0_, e6h0_, e7h0_, hb⟩
  have HNa := hide ho1
  have HNb := hide ho2
  have HNc := hide ho3
  clear ho1 ho2 ho3
  have HB14 := hide (HB13.out.trans (hb.mono HB13.out.size))
  have hs14 : w13.heap.size ≤ w14.heap.size := hb.size
  have HXa0_14 := hide (blk_below hb (by omega) HXa0_13.out)
  clear HXa0_13
  have HOW0_14 := hide (HOW0_13.out.below hb)
  clear HOW0_13
  have HOR0_14 := hide (HOR0_13.out.below hb)
  clear HOR0_13
  clear hb
  have HOh0_a_14 := HNa
  clear HNa
  have HOh0_b_14 := HNb
  clear HNb
  have HOh0_c_14 := HNc
  clear HNc
  clear ka0_0 ka0_1 ka0_2
  go_wp2_with fail
  refine (implLife7_any _ n0a n0a x0a _ n0b n0b x0b _ n0c n0c x0c w14 hm0a HOh0_a_14.out.sl hm0b HOh0_b_14.out.sl hm0c HOh0_c_14.out.sl).mono ?_
  rintro e w15 ⟨Q0, Q0d, Q0z, rfl, ho0, hz0, hb⟩
  (try rw [HLN.out])
  (try rw [HTB.out])
  (try rw [HLN.out] at ho0)
  (try rw [HLN.out] at hz0)
  (try rw [HTB.out] at ho0)
  (try rw [HTB.out] at hz0)
  have Qho0 := hide ho0
  clear ho0
  have Qhz0 := hide hz0
  clear hz0
  have HB15 := hide (HB14.out.trans (hb.mono HB14.out.size))
  have hs15 : w14.heap.size ≤ w15.heap.size := hb.size
  have HXa0_15 := hide (blk_below hb (by omega) HXa0_14.out)
  clear HXa0_14
  have HOW0_15 := hide (HOW0_14.out.below hb)
  clear HOW0_14
  have HOR0_15 := hide (HOR0_14.out.below hb)
  clear HOR0_14
  have HOh0_a_15 := hide (HOh0_a_14.out.below hb)
  clear HOh0_a_14
  have HOh0_b_15 := hide (HOh0_b_14.out.below hb)
  clear HOh0_b_14
  have HOh0_c_15 := hide (HOh0_c_14.out.below hb)
  clear HOh0_c_14
  clear hb
  have HOQ0_15 := Qho0
  clear Qho0
  have HZQ0 := Qhz0
  clear Qhz0
  clear HOh0_a_15
  clear HOh0_b_15
  clear HOh0_c_15
  go_wp2_with fail
  refine (eqFl_any _ _ LN _ _ Q0z W0z _ (by unfold maxLen; omega) HOQ0_15.out.sl HOW0_15.out.sl (fun j hj => (HZQ0.out j hj).trans (HZW0.out j hj).symm)).mono ?_
  rintro e w16 ⟨rfl, q, hq⟩
  have hb : Below w15.heap.size w15 w16 := by rw [hq]; first | exact bel_q (Below.refl _ _) _ | exact bel_q (bel_q (Below.refl _ _) _) _
  clear hq
  have HB16 := hide (HB15.out.trans (hb.mono HB15.out.size))
  have hs16 : w15.heap.size ≤ w16.heap.size := hb.size
  have HXa0_16 := hide (blk_below hb (by omega) HXa0_15.out)
  clear HXa0_15
  have HOW0_16 := hide (HOW0_15.out.below hb)
  clear HOW0_15
  have HOR0_16 := hide (HOR0_15.out.below hb)
  clear HOR0_15
  have HOQ0_16 := hide (HOQ0_15.out.below hb)
  clear HOQ0_15
  clear hb
  go_wp2_with fail
  refine (heldFl_any _ LN _ (1) _ hM0 (by omega) (by omega) HOR0_16.out.sl).mono ?_
  rintro e w17 ⟨rfl, q, hq⟩
  have hb : Below w16.heap.size w16 w17 := by rw [hq]; first | exact bel_q (Below.refl _ _) _ | exact bel_q (bel_q (Below.refl _ _) _) _
  clear hq
  have HB17 := hide (HB16.out.trans (hb.mono HB16.out.size))
  have hs17 : w16.heap.size ≤ w17.heap.size := hb.size
  have HXa0_17 := hide (blk_below hb (by omega) HXa0_16.out)
  clear HXa0_16
  have HOW0_17 := hide (HOW0_16.out.below hb)
  clear HOW0_16
  have HOR0_17 := hide (HOR0_16.out.below hb)
  clear HOR0_16
  have HOQ0_17 := hide (HOQ0_16.out.below hb)
  clear HOQ0_16
  clear hb
  go_wp2_with fail
  go_ret
  exact ⟨rfl, HB17.out⟩
end Go.Proofs.Ytjebkagbknmdoaa
