/- The law FnExactGrowthOf, walked. -/
import Derived.Test.YtpbbedelapnnnaaGs9
import Derived.Test.YtpbbedelapnnnaaGm9
import Derived.Test.YtpbbedelapnnnaaMp8
import Derived.Test.YtpbbedelapnnnaaRow
import Derived.Test.YtpbbedelapnnnaaSame
import Derived.Deep.RegionHeld3
namespace Go.Proofs.Ytpbbedelapnnnaa
open Go.RowKit Go.Dues
set_option maxRecDepth 100000 in
set_option maxHeartbeats 8000000 in
theorem lawGrowthOf_any (A0a : Option Addr) (n0a c0a : Nat) (x0a : Nat → Nat) (A0b : Option Addr) (n0b c0b : Nat) (x0b : Nat → Nat) (A0c : Option Addr) (n0c c0c : Nat) (x0c : Nat → Nat) (v1 : Int) (w : World) (hm0a : n0a ≤ maxLen) (hs0a : SL w A0a n0a (fun j => .float .f32 (x0a j))) (hm0b : n0b ≤ maxLen) (hs0b : SL w A0b n0b (fun j => .float .f32 (x0b j))) (hm0c : n0c ≤ maxLen) (hs0c : SL w A0c n0c (fun j => .float .f32 (x0c j))) (wv1 : -9223372036854775808 ≤ v1 ∧ v1 ≤ 9223372036854775807) :
    Calls Try.prog 3 #[.agg #[.slice A0a n0a c0a, .slice A0b n0b c0b, .slice A0c n0c c0c], .int .i64 v1] w fun e w' => e = .returned (.bool true) ∧ Below w.heap.size w w' := by
  have hwd := fun (w : World) (b : Nat) => run_widen_eq (P := Try.prog) w 26 32 b (by rw [Try.underlying26]; rfl) Try.underlying32
  have WV1 := hide wv1
  clear wv1
  have HS0a := hide hs0a
  clear hs0a
  have HS0b := hide hs0b
  clear hs0b
  have HS0c := hide hs0c
  clear hs0c
  obtain ⟨w0, hw0⟩ : ∃ u, u = (w.alloc (.cells #[.slice A0a n0a c0a, .slice A0b n0b c0b, .slice A0c n0c c0c] 24)) := ⟨_, rfl⟩
  have HB0 : Hid (Below w.heap.size w w0) := by rw [hw0]; exact ((Below.refl w.heap.size w).alloc (Nat.le_refl _) (.cells #[.slice A0a n0a c0a, .slice A0b n0b c0b, .slice A0c n0c c0c] 24))
  have HXa0_0 : Hid (w0.heap[w.heap.size]? = some (.cells #[.slice A0a n0a c0a, .slice A0b n0b c0b, .slice A0c n0c c0c] 24)) := by rw [hw0]; exact blocks1 w _
  have hs0 : w.heap.size + 1 ≤ w0.heap.size := by rw [hw0]; simp
  have HW := hide hw0
  clear hw0
  go_enter Try.func3, Try.ntmps3
  have ka0_0 := Joins.cell_of_block HXa0_0.out 0
  simp at ka0_0
  have ka0_1 := Joins.cell_of_block HXa0_0.out 1
  simp at ka0_1
  have ka0_2 := Joins.cell_of_block HXa0_0.out 2
  simp at ka0_2
  have ia0_0 := ka0_0
  rw [HW.out] at ia0_0
  have ia0_1 := ka0_1
  rw [HW.out] at ia0_1
  have ia0_2 := ka0_2
  rw [HW.out] at ia0_2
  go_wp2_with fail
  rw [← HW.out]
  clear HW
  clear ia0_0 ia0_1 ia0_2
  refine (szPpl_any A0a n0a c0a A0b n0b c0b A0c n0c c0c 1048576 _ hm0a hm0b hm0c (by omega) (by omega)).mono ?_
  rintro e w1 ⟨m0, rfl, hm, hb⟩
  have HB1 := hide (HB0.out.trans (hb.mono HB0.out.size))
  have hs1 : w0.heap.size ≤ w1.heap.size := hb.size
  have HXa0_1 := hide (blk_below hb (by omega) HXa0_0.out)
  clear HXa0_0
  clear hb
  clear ka0_0 ka0_1 ka0_2
  rcases hm with ⟨hl0, hu0, hn0a, hn0b, hn0c⟩ | rfl
  rotate_left
  · go_wp2
    go_ret
    exact ⟨rfl, HB1.out⟩
  obtain ⟨VF, hVF⟩ : ∃ q, ifF (grP x0a n0a x0b n0b x0c n0c v1) (grG x0a x0b x0c n0a (v1.toNat - 1)) = q := ⟨_, rfl⟩
  obtain ⟨LN, hLN⟩ : ∃ q, lenV (grP x0a n0a x0b n0b x0c n0c v1) n0a = q := ⟨_, rfl⟩
  obtain ⟨TB, hTB⟩ : ∃ q, tru (grP x0a n0a x0b n0b x0c n0c v1) = q := ⟨_, rfl⟩
  have hM0 : LN ≤ 1048576 := by rw [← hLN]; exact (Nat.le_trans (lenV_le _ _) hn0a)
  have HVF := hide hVF
  clear hVF
  have HLN := hide hLN
  clear hLN
  have HTB := hide hTB
  clear hTB
  have ka0_0 := Joins.cell_of_block HXa0_1.out 0
  simp at ka0_0
  have ka0_1 := Joins.cell_of_block HXa0_1.out 1
  simp at ka0_1
  have ka0_2 := Joins.cell_of_block HXa0_1.out 2
  simp at ka0_2
  go_wp2_with fail
  refine (toPplW_any A0a n0a c0a x0a A0b n0b c0b x0b A0c n0c c0c x0c _ hn0a (HS0a.out.below HB1.out) hn0b (HS0b.out.below HB1.out) hn0c (HS0c.out.below HB1.out)).mono ?_
  rintro e w2 ⟨gs0_a, gs0_b, gs0_c, ls0_a, us0_a, ls0_b, us0_b, ls0_c, us0_c, rfl, ho1, ho2, ho3, e1s0_, e2s0_, e3s0_, e4s0_, e5s0_, e6s0_, e7s0_, hb⟩
  have HNa := hide ho1
  have HNb := hide ho2
  have HNc := hide ho3
  clear ho1 ho2 ho3
  have HB2 := hide (HB1.out.trans (hb.mono HB1.out.size))
  have hs2 : w1.heap.size ≤ w2.heap.size := hb.size
  have HXa0_2 := hide (blk_below hb (by omega) HXa0_1.out)
  clear HXa0_1
  clear hb
  have HOs0_a_2 := HNa
  clear HNa
  have HOs0_b_2 := HNb
  clear HNb
  have HOs0_c_2 := HNc
  clear HNc
  clear ka0_0 ka0_1 ka0_2
  go_wp2_with fail
  refine (specGrowth_any _ n0a n0a x0a _ n0b n0b x0b _ n0c n0c x0c v1 w2 hm0a HOs0_a_2.out.sl hm0b HOs0_b_2.out.sl hm0c HOs0_c_2.out.sl).mono ?_
  rintro e w3 ⟨W0, W1, W1d, W1z, rfl, hr0, ho1, hz1, hb⟩
  (try rw [HVF.out])
  (try rw [HLN.out])
  (try rw [HTB.out])
  (try rw [HVF.out] at hr0)
  (try rw [HVF.out] at ho1)
  (try rw [HVF.out] at hz1)
  (try rw [HLN.out] at hr0)
  (try rw [HLN.out] at ho1)
  (try rw [HLN.out] at hz1)
  (try rw [HTB.out] at hr0)
  (try rw [HTB.out] at ho1)
  (try rw [HTB.out] at hz1)
  have Qhr0 := hide hr0
  clear hr0
  have Qho1 := hide ho1
  clear ho1
  have Qhz1 := hide hz1
  clear hz1
  have HB3 := hide (HB2.out.trans (hb.mono HB2.out.size))
  have hs3 : w2.heap.size ≤ w3.heap.size := hb.size
  have HXa0_3 := hide (blk_below hb (by omega) HXa0_2.out)
  clear HXa0_2
  have HOs0_a_3 := hide (HOs0_a_2.out.below hb)
  clear HOs0_a_2
  have HOs0_b_3 := hide (HOs0_b_2.out.below hb)
  clear HOs0_b_2
  have HOs0_c_3 := hide (HOs0_c_2.out.below hb)
  clear HOs0_c_2
  clear hb
  have HRW0 := Qhr0
  clear Qhr0
  have HOW1_3 := Qho1
  clear Qho1
  have HZW1 := Qhz1
  clear Qhz1
  clear HOs0_a_3
  clear HOs0_b_3
  clear HOs0_c_3
  have ka0_0 := Joins.cell_of_block HXa0_3.out 0
  simp at ka0_0
  have ka0_1 := Joins.cell_of_block HXa0_3.out 1
  simp at ka0_1
  have ka0_2 := Joins.cell_of_block HXa0_3.out 2
  simp at ka0_2
  go_wp2_with fail
  refine (toPplW_any A0a n0a c0a x0a A0b n0b c0b x0b A0c n0c c0c x0c _ hn0a (HS0a.out.below HB3.out) hn0b (HS0b.out.below HB3.out) hn0c (HS0c.out.below HB3.out)).mono ?_
  rintro e w4 ⟨gx0_a, gx0_b, gx0_c, lx0_a, ux0_a, lx0_b, ux0_b, lx0_c, ux0_c, rfl, ho1, ho2, ho3, e1x0_, e2x0_, e3x0_, e4x0_, e5x0_, e6x0_, e7x0_, hb⟩
  have HNa := hide ho1
  have HNb := hide ho2
  have HNc := hide ho3
  clear ho1 ho2 ho3
  have HB4 := hide (HB3.out.trans (hb.mono HB3.out.size))
  have hs4 : w3.heap.size ≤ w4.heap.size := hb.size
  have HXa0_4 := hide (blk_below hb (by omega) HXa0_3.out)
  clear HXa0_3
  have HOW1_4 := hide (HOW1_3.out.below hb)
  clear HOW1_3
  clear hb
  have HOx0_a_4 := HNa
  clear HNa
  have HOx0_b_4 := HNb
  clear HNb
  have HOx0_c_4 := HNc
  clear HNc
  clear ka0_0 ka0_1 ka0_2
  obtain ⟨w5, hwe⟩ : ∃ u, u = w4.alloc (.cells #[.slice (some ⟨gx0_a, 0, none⟩) n0a n0a, .slice (some ⟨gx0_b, 0, none⟩) n0b n0b, .slice (some ⟨gx0_c, 0, none⟩) n0c n0c] 29) := ⟨_, rfl⟩
  have hb : Below w4.heap.size w4 w5 := by rw [hwe]; exact (Below.refl _ _).alloc (Nat.le_refl _) _
  have HXx0_5 : Hid (w5.heap[w4.heap.size]? = some (.cells #[.slice (some ⟨gx0_a, 0, none⟩) n0a n0a, .slice (some ⟨gx0_b, 0, none⟩) n0b n0b, .slice (some ⟨gx0_c, 0, none⟩) n0c n0c] 29)) := by rw [hwe]; exact blocks1 w4 _
  have hsb5 : w4.heap.size + 1 ≤ w5.heap.size := by rw [hwe]; simp
  have HW := hide hwe
  clear hwe
  have HB5 := hide (HB4.out.trans (hb.mono HB4.out.size))
  have hs5 : w4.heap.size ≤ w5.heap.size := hb.size
  have HXa0_5 := hide (blk_below hb (by omega) HXa0_4.out)
  clear HXa0_4
  have HOW1_5 := hide (HOW1_4.out.below hb)
  clear HOW1_4
  have HOx0_a_5 := hide (HOx0_a_4.out.below hb)
  clear HOx0_a_4
  have HOx0_b_5 := hide (HOx0_b_4.out.below hb)
  clear HOx0_b_4
  have HOx0_c_5 := hide (HOx0_c_4.out.below hb)
  clear HOx0_c_4
  clear hb
  have kx0_0 := Joins.cell_of_block HXx0_5.out 0
  simp at kx0_0
  have kx0_1 := Joins.cell_of_block HXx0_5.out 1
  simp at kx0_1
  have kx0_2 := Joins.cell_of_block HXx0_5.out 2
  simp at kx0_2
  have ix0_0 := kx0_0
  rw [HW.out] at ix0_0
  have ix0_1 := kx0_1
  rw [HW.out] at ix0_1
  have ix0_2 := kx0_2
  rw [HW.out] at ix0_2
  go_wp2_with fail
  rw [← HW.out]
  clear HW
  clear ix0_0 ix0_1 ix0_2
  refine (implGrowthL_any _ n0a n0a x0a _ n0b n0b x0b _ n0c n0c x0c v1 w5 hm0a HOx0_a_5.out.sl hm0b HOx0_b_5.out.sl hm0c HOx0_c_5.out.sl).mono ?_
  rintro e w6 ⟨R0, R1, R1d, R1z, rfl, hr0, ho1, hz1, hb⟩
  (try rw [HVF.out])
  (try rw [HLN.out])
  (try rw [HTB.out])
  (try rw [HVF.out] at hr0)
  (try rw [HVF.out] at ho1)
  (try rw [HVF.out] at hz1)
  (try rw [HLN.out] at hr0)
  (try rw [HLN.out] at ho1)
  (try rw [HLN.out] at hz1)
  (try rw [HTB.out] at hr0)
  (try rw [HTB.out] at ho1)
  (try rw [HTB.out] at hz1)
  have Qhr0 := hide hr0
  clear hr0
  have Qho1 := hide ho1
  clear ho1
  have Qhz1 := hide hz1
  clear hz1
  have HB6 := hide (HB5.out.trans (hb.mono HB5.out.size))
  have hs6 : w5.heap.size ≤ w6.heap.size := hb.size
  have HXa0_6 := hide (blk_below hb (by omega) HXa0_5.out)
  clear HXa0_5
  have HXx0_6 := hide (blk_below hb (by omega) HXx0_5.out)
  clear HXx0_5
  have HOW1_6 := hide (HOW1_5.out.below hb)
  clear HOW1_5
  have HOx0_a_6 := hide (HOx0_a_5.out.below hb)
  clear HOx0_a_5
  have HOx0_b_6 := hide (HOx0_b_5.out.below hb)
  clear HOx0_b_5
  have HOx0_c_6 := hide (HOx0_c_5.out.below hb)
  clear HOx0_c_5
  clear hb
  clear kx0_0 kx0_1 kx0_2
  have HRR0 := Qhr0
  clear Qhr0
  have HOR1_6 := Qho1
  clear Qho1
  have HZR1 := Qhz1
  clear Qhz1
  go_wp2_with fail
  refine (sameFloat_any _ _ _ (wv_both (HRR0.out.trans HRW0.out.symm))).mono ?_
  rintro e w7 ⟨rfl, q, hq⟩
  have hb : Below w6.heap.size w6 w7 := by rw [hq]; first | exact bel_q (Below.refl _ _) _ | exact bel_q (bel_q (Below.refl _ _) _) _
  clear hq
  have HB7 := hide (HB6.out.trans (hb.mono HB6.out.size))
  have hs7 : w6.heap.size ≤ w7.heap.size := hb.size
  have HXa0_7 := hide (blk_below hb (by omega) HXa0_6.out)
  clear HXa0_6
  have HXx0_7 := hide (blk_below hb (by omega) HXx0_6.out)
  clear HXx0_6
  have HOW1_7 := hide (HOW1_6.out.below hb)
  clear HOW1_6
  have HOx0_a_7 := hide (HOx0_a_6.out.below hb)
  clear HOx0_a_6
  have HOx0_b_7 := hide (HOx0_b_6.out.below hb)
  clear HOx0_b_6
  have HOx0_c_7 := hide (HOx0_c_6.out.below hb)
  clear HOx0_c_6
  have HOR1_7 := hide (HOR1_6.out.below hb)
  clear HOR1_6
  clear hb
  go_wp2_with fail
  refine (eqFl_any _ _ LN _ _ R1z W1z _ (by unfold maxLen; omega) HOR1_7.out.sl HOW1_7.out.sl (fun j hj => (HZR1.out j hj).trans (HZW1.out j hj).symm)).mono ?_
  rintro e w8 ⟨rfl, q, hq⟩
  have hb : Below w7.heap.size w7 w8 := by rw [hq]; first | exact bel_q (Below.refl _ _) _ | exact bel_q (bel_q (Below.refl _ _) _) _
  clear hq
  have HB8 := hide (HB7.out.trans (hb.mono HB7.out.size))
  have hs8 : w7.heap.size ≤ w8.heap.size := hb.size
  have HXa0_8 := hide (blk_below hb (by omega) HXa0_7.out)
  clear HXa0_7
  have HXx0_8 := hide (blk_below hb (by omega) HXx0_7.out)
  clear HXx0_7
  have HOW1_8 := hide (HOW1_7.out.below hb)
  clear HOW1_7
  have HOx0_a_8 := hide (HOx0_a_7.out.below hb)
  clear HOx0_a_7
  have HOx0_b_8 := hide (HOx0_b_7.out.below hb)
  clear HOx0_b_7
  have HOx0_c_8 := hide (HOx0_c_7.out.below hb)
  clear HOx0_c_7
  have HOR1_8 := hide (HOR1_7.out.below hb)
  clear HOR1_7
  clear hb
  have ka0p := Joins.cell_of_block HXa0_8.out 0
  have kx0p := Joins.cell_of_block HXx0_8.out 0
  simp at ka0p kx0p
  have ka1p := Joins.cell_of_block HXa0_8.out 1
  have kx1p := Joins.cell_of_block HXx0_8.out 1
  simp at ka1p kx1p
  have ka2p := Joins.cell_of_block HXa0_8.out 2
  have kx2p := Joins.cell_of_block HXx0_8.out 2
  simp at ka2p kx2p
  have GSa := hide (HS0a.out.below HB8.out)
  have GSb := hide (HS0b.out.below HB8.out)
  have GSc := hide (HS0c.out.below HB8.out)
  go_wp2_with fail
  go_region_held3 (fun w' => w'.cell? ⟨w4.heap.size, 0, none⟩ = some (.slice (some ⟨gx0_a, 0, none⟩) n0a n0a) ∧ w'.cell? ⟨w4.heap.size, 1, none⟩ = some (.slice (some ⟨gx0_b, 0, none⟩) n0b n0b) ∧ w'.cell? ⟨w4.heap.size, 2, none⟩ = some (.slice (some ⟨gx0_c, 0, none⟩) n0c n0c) ∧ w'.cell? ⟨w.heap.size, 0, none⟩ = some (.slice A0a n0a c0a) ∧ w'.cell? ⟨w.heap.size, 1, none⟩ = some (.slice A0b n0b c0b) ∧ w'.cell? ⟨w.heap.size, 2, none⟩ = some (.slice A0c n0c c0c)) ((first | exact ⟨kx0p, kx1p, kx2p, ka0p, ka1p, ka2p⟩ | exact ⟨kx0q, kx1q, kx2q, ka0q, ka1q, ka2q⟩ | exact ⟨kx0r, kx1r, kx2r, ka0r, ka1r, ka2r⟩)) (first
    | (go_at_call 17; refine (toPplW_any A0a n0a c0a x0a A0b n0b c0b x0b A0c n0c c0c x0c _ hn0a (by exact GSa.out) hn0b (by exact GSb.out) hn0c (by exact GSc.out)).mono ?_; rintro e w9 ⟨_, _, _, _, _, _, _, _, _, rfl, ht1, ht2, ht3, _, _, _, _, _, _, _, hb⟩; replace hb : Below w8.heap.size w8 w9 := ⟨hb.os, hb.tape, hb.output, hb.size, hb.block⟩; have hs9 : w8.heap.size ≤ w9.heap.size := hb.size; have HB9 := hide (HB8.out.trans (hb.mono HB8.out.size)); have HT1 := hide ht1.sl; have HT2 := hide ht2.sl; have HT3 := hide ht3.sl; have HXa0_9 := hide (blk_below hb (by omega) HXa0_8.out); have HXx0_9 := hide (blk_below hb (by omega) HXx0_8.out); have HOW1_9 := hide (HOW1_8.out.below hb); have HOx0_a_9 := hide (HOx0_a_8.out.below hb); have HOx0_b_9 := hide (HOx0_b_8.out.below hb); have HOx0_c_9 := hide (HOx0_c_8.out.below hb); have HOR1_9 := hide (HOR1_8.out.below hb); have ka0q := Joins.cell_of_block HXa0_9.out 0; have kx0q := Joins.cell_of_block HXx0_9.out 0; simp at ka0q kx0q; have ka1q := Joins.cell_of_block HXa0_9.out 1; have kx1q := Joins.cell_of_block HXx0_9.out 1; simp at ka1q kx1q; have ka2q := Joins.cell_of_block HXa0_9.out 2; have kx2q := Joins.cell_of_block HXx0_9.out 2; simp at ka2q kx2q; clear hb ht1 ht2 ht3)
    | (go_at_call 21; refine (eqPpl_any _ _ n0a n0a n0a x0a x0a _ _ n0b n0b n0b x0b x0b _ _ n0c n0c n0c x0c x0c _ hm0a (by exact HOx0_a_9.out.sl) (by exact HT1.out) (fun _ _ => FS.refl _ _) hm0b (by exact HOx0_b_9.out.sl) (by exact HT2.out) (fun _ _ => FS.refl _ _) hm0c (by exact HOx0_c_9.out.sl) (by exact HT3.out) (fun _ _ => FS.refl _ _)).mono ?_; rintro e w10 ⟨rfl, hb⟩; replace hb : Below w9.heap.size w9 w10 := ⟨hb.os, hb.tape, hb.output, hb.size, hb.block⟩; have hs10 : w9.heap.size ≤ w10.heap.size := hb.size; have HB10 := hide (HB9.out.trans (hb.mono HB9.out.size)); have HXa0_10 := hide (blk_below hb (by omega) HXa0_9.out); have HXx0_10 := hide (blk_below hb (by omega) HXx0_9.out); have HOW1_10 := hide (HOW1_9.out.below hb); have HOx0_a_10 := hide (HOx0_a_9.out.below hb); have HOx0_b_10 := hide (HOx0_b_9.out.below hb); have HOx0_c_10 := hide (HOx0_c_9.out.below hb); have HOR1_10 := hide (HOR1_9.out.below hb); have ka0r := Joins.cell_of_block HXa0_10.out 0; have kx0r := Joins.cell_of_block HXx0_10.out 0; simp at ka0r kx0r; have ka1r := Joins.cell_of_block HXa0_10.out 1; have kx1r := Joins.cell_of_block HXx0_10.out 1; simp at ka1r kx1r; have ka2r := Joins.cell_of_block HXa0_10.out 2; have kx2r := Joins.cell_of_block HXx0_10.out 2; simp at ka2r kx2r; clear hb))
  clear kx0p ka0p kx0q ka0q kx0r ka0r kx1p ka1p kx1q ka1q kx1r ka1r kx2p ka2p kx2q ka2q kx2r ka2r GSa GSb GSc HT1 HT2 HT3
  clear HXa0_8 HXa0_9 HXx0_8 HXx0_9 HOW1_8 HOW1_9 HOx0_a_8 HOx0_a_9 HOx0_b_8 HOx0_b_9 HOx0_c_8 HOx0_c_9 HOR1_8 HOR1_9
  have kx0_0 := Joins.cell_of_block HXx0_10.out 0
  simp at kx0_0
  have kx0_1 := Joins.cell_of_block HXx0_10.out 1
  simp at kx0_1
  have kx0_2 := Joins.cell_of_block HXx0_10.out 2
  simp at kx0_2
  go_wp2_with fail
  refine (markPpl_any _ n0a _ x0a _ n0b _ x0b _ n0c _ x0c lx0_a ux0_a lx0_b ux0_b lx0_c ux0_c lx0_a ux0_c (1) w10 hn0a hn0b hn0c (by omega) (by omega) (by omega) (by omega) HOx0_a_10.out HOx0_b_10.out HOx0_c_10.out).mono ?_
  rintro e w11 ⟨rfl, ho1, ho2, ho3, hw⟩
  have HNa := hide ho1
  clear ho1 HOx0_a_10
  have HNb := hide ho2
  clear ho2 HOx0_b_10
  have HNc := hide ho3
  clear ho3 HOx0_c_10
  have hs11 : w10.heap.size ≤ w11.heap.size := hw.size
  have HB11 := hide (HB10.out.trans (hw.bel (B := w.heap.size) (by omega) (by omega)))
  have HXa0_11 := hide (blk_marked hw (by omega) (by omega) HXa0_10.out)
  clear HXa0_10
  have HXx0_11 := hide (blk_marked hw (by omega) (by omega) HXx0_10.out)
  clear HXx0_10
  have HOW1_11 := hide (HOW1_10.out.marked hw (by omega))
  clear HOW1_10
  have HOR1_11 := hide (HOR1_10.out.marked hw (by omega))
  clear HOR1_10
  clear hw
  have HOx0_a_11 := HNa
  clear HNa
  have HOx0_b_11 := HNb
  clear HNb
  have HOx0_c_11 := HNc
  clear HNc
  clear kx0_0 kx0_1 kx0_2
  clear HOx0_a_11
  clear HOx0_b_11
  clear HOx0_c_11
  clear HXx0_11
  go_wp2_with fail
  refine (sameFloat_any _ _ _ (wv_both (HRR0.out.trans HRW0.out.symm))).mono ?_
  rintro e w12 ⟨rfl, q, hq⟩
  have hb : Below w11.heap.size w11 w12 := by rw [hq]; first | exact bel_q (Below.refl _ _) _ | exact bel_q (bel_q (Below.refl _ _) _) _
  clear hq
  have HB12 := hide (HB11.out.trans (hb.mono HB11.out.size))
  have hs12 : w11.heap.size ≤ w12.heap.size := hb.size
  have HXa0_12 := hide (blk_below hb (by omega) HXa0_11.out)
  clear HXa0_11
  have HOW1_12 := hide (HOW1_11.out.below hb)
  clear HOW1_11
  have HOR1_12 := hide (HOR1_11.out.below hb)
  clear HOR1_11
  clear hb
  go_wp2_with fail
  refine (eqFl_any _ _ LN _ _ R1z W1z _ (by unfold maxLen; omega) HOR1_12.out.sl HOW1_12.out.sl (fun j hj => (HZR1.out j hj).trans (HZW1.out j hj).symm)).mono ?_
  rintro e w13 ⟨rfl, q, hq⟩
  have hb : Below w12.heap.size w12 w13 := by rw [hq]; first | exact bel_q (Below.refl _ _) _ | exact bel_q (bel_q (Below.refl _ _) _) _
  clear hq
  have HB13 := hide (HB12.out.trans (hb.mono HB12.out.size))
  have hs13 : w12.heap.size ≤ w13.heap.size := hb.size
  have HXa0_13 := hide (blk_below hb (by omega) HXa0_12.out)
  clear HXa0_12
  have HOW1_13 := hide (HOW1_12.out.below hb)
  clear HOW1_12
  have HOR1_13 := hide (HOR1_12.out.below hb)
  clear HOR1_12
  clear hb
  go_wp2_with fail
  refine (markFl_any _ LN _ w5.heap.size w6.heap.size R1z (1) w13 hM0 (by omega) (by omega) HOR1_13.out).mono ?_
  rintro e w14 ⟨rfl, ho, hw⟩
  have HN := hide ho
  clear ho HOR1_13
  replace hw : Marked w5.heap.size w6.heap.size w13 w14 := marked_of hw
  have hs14 : w13.heap.size ≤ w14.heap.size := hw.size
  have HB14 := hide (HB13.out.trans (hw.bel (B := w.heap.size) (by omega) (by omega)))
  have HXa0_14 := hide (blk_marked hw (by omega) (by omega) HXa0_13.out)
  clear HXa0_13
  have HOW1_14 := hide (HOW1_13.out.marked hw (by omega))
  clear HOW1_13
  clear hw
  have HOR1_14 := HN
  clear HN
  go_wp2_with fail
  refine (heldFl_any _ LN _ (1) _ hM0 (by omega) (by omega) HOR1_14.out.sl).mono ?_
  rintro e w15 ⟨rfl, q, hq⟩
  have hb : Below w14.heap.size w14 w15 := by rw [hq]; first | exact bel_q (Below.refl _ _) _ | exact bel_q (bel_q (Below.refl _ _) _) _
  clear hq
  have HB15 := hide (HB14.out.trans (hb.mono HB14.out.size))
  have hs15 : w14.heap.size ≤ w15.heap.size := hb.size
  have HXa0_15 := hide (blk_below hb (by omega) HXa0_14.out)
  clear HXa0_14
  have HOW1_15 := hide (HOW1_14.out.below hb)
  clear HOW1_14
  have HOR1_15 := hide (HOR1_14.out.below hb)
  clear HOR1_14
  clear hb
  have ka0_0 := Joins.cell_of_block HXa0_15.out 0
  simp at ka0_0
  have ka0_1 := Joins.cell_of_block HXa0_15.out 1
  simp at ka0_1
  have ka0_2 := Joins.cell_of_block HXa0_15.out 2
  simp at ka0_2
  go_wp2_with fail
  refine (toPplW_any A0a n0a c0a x0a A0b n0b c0b x0b A0c n0c c0c x0c _ hn0a (HS0a.out.below HB15.out) hn0b (HS0b.out.below HB15.out) hn0c (HS0c.out.below HB15.out)).mono ?_
  rintro e w16 ⟨gh0_a, gh0_b, gh0_c, lh0_a, uh0_a, lh0_b, uh0_b, lh0_c, uh0_c, rfl, ho1, ho2, ho3, e1h0_, e2h0_, e3h0_, e4h0_, e5h0_, e6h0_, e7h0_, hb⟩
  have HNa := hide ho1
  have HNb := hide ho2
  have HNc := hide ho3
  clear ho1 ho2 ho3
  have HB16 := hide (HB15.out.trans (hb.mono HB15.out.size))
  have hs16 : w15.heap.size ≤ w16.heap.size := hb.size
  have HXa0_16 := hide (blk_below hb (by omega) HXa0_15.out)
  clear HXa0_15
  have HOW1_16 := hide (HOW1_15.out.below hb)
  clear HOW1_15
  have HOR1_16 := hide (HOR1_15.out.below hb)
  clear HOR1_15
  clear hb
  have HOh0_a_16 := HNa
  clear HNa
  have HOh0_b_16 := HNb
  clear HNb
  have HOh0_c_16 := HNc
  clear HNc
  clear ka0_0 ka0_1 ka0_2
  go_wp2_with fail
  refine (implGrowthL_any _ n0a n0a x0a _ n0b n0b x0b _ n0c n0c x0c v1 w16 hm0a HOh0_a_16.out.sl hm0b HOh0_b_16.out.sl hm0c HOh0_c_16.out.sl).mono ?_
  rintro e w17 ⟨Q0, Q1, Q1d, Q1z, rfl, hr0, ho1, hz1, hb⟩
  (try rw [HVF.out])
  (try rw [HLN.out])
  (try rw [HTB.out])
  (try rw [HVF.out] at hr0)
  (try rw [HVF.out] at ho1)
  (try rw [HVF.out] at hz1)
  (try rw [HLN.out] at hr0)
  (try rw [HLN.out] at ho1)
  (try rw [HLN.out] at hz1)
  (try rw [HTB.out] at hr0)
  (try rw [HTB.out] at ho1)
  (try rw [HTB.out] at hz1)
  have Qhr0 := hide hr0
  clear hr0
  have Qho1 := hide ho1
  clear ho1
  have Qhz1 := hide hz1
  clear hz1
  have HB17 := hide (HB16.out.trans (hb.mono HB16.out.size))
  have hs17 : w16.heap.size ≤ w17.heap.size := hb.size
  have HXa0_17 := hide (blk_below hb (by omega) HXa0_16.out)
  clear HXa0_16
  have HOW1_17 := hide (HOW1_16.out.below hb)
  clear HOW1_16
  have HOR1_17 := hide (HOR1_16.out.below hb)
  clear HOR1_16
  have HOh0_a_17 := hide (HOh0_a_16.out.below hb)
  clear HOh0_a_16
  have HOh0_b_17 := hide (HOh0_b_16.out.below hb)
  clear HOh0_b_16
  have HOh0_c_17 := hide (HOh0_c_16.out.below hb)
  clear HOh0_c_16
  clear hb
  have HRQ0 := Qhr0
  clear Qhr0
  have HOQ1_17 := Qho1
  clear Qho1
  have HZQ1 := Qhz1
  clear Qhz1
  clear HOh0_a_17
  clear HOh0_b_17
  clear HOh0_c_17
  go_wp2_with fail
  refine (sameFloat_any _ _ _ (wv_both (HRQ0.out.trans HRW0.out.symm))).mono ?_
  rintro e w18 ⟨rfl, q, hq⟩
  have hb : Below w17.heap.size w17 w18 := by rw [hq]; first | exact bel_q (Below.refl _ _) _ | exact bel_q (bel_q (Below.refl _ _) _) _
  clear hq
  have HB18 := hide (HB17.out.trans (hb.mono HB17.out.size))
  have hs18 : w17.heap.size ≤ w18.heap.size := hb.size
  have HXa0_18 := hide (blk_below hb (by omega) HXa0_17.out)
  clear HXa0_17
  have HOW1_18 := hide (HOW1_17.out.below hb)
  clear HOW1_17
  have HOR1_18 := hide (HOR1_17.out.below hb)
  clear HOR1_17
  have HOQ1_18 := hide (HOQ1_17.out.below hb)
  clear HOQ1_17
  clear hb
  go_wp2_with fail
  refine (eqFl_any _ _ LN _ _ Q1z W1z _ (by unfold maxLen; omega) HOQ1_18.out.sl HOW1_18.out.sl (fun j hj => (HZQ1.out j hj).trans (HZW1.out j hj).symm)).mono ?_
  rintro e w19 ⟨rfl, q, hq⟩
  have hb : Below w18.heap.size w18 w19 := by rw [hq]; first | exact bel_q (Below.refl _ _) _ | exact bel_q (bel_q (Below.refl _ _) _) _
  clear hq
  have HB19 := hide (HB18.out.trans (hb.mono HB18.out.size))
  have hs19 : w18.heap.size ≤ w19.heap.size := hb.size
  have HXa0_19 := hide (blk_below hb (by omega) HXa0_18.out)
  clear HXa0_18
  have HOW1_19 := hide (HOW1_18.out.below hb)
  clear HOW1_18
  have HOR1_19 := hide (HOR1_18.out.below hb)
  clear HOR1_18
  have HOQ1_19 := hide (HOQ1_18.out.below hb)
  clear HOQ1_18
  clear hb
  go_wp2_with fail
  refine (heldFl_any _ LN _ (1) _ hM0 (by omega) (by omega) HOR1_19.out.sl).mono ?_
  rintro e w20 ⟨rfl, q, hq⟩
  have hb : Below w19.heap.size w19 w20 := by rw [hq]; first | exact bel_q (Below.refl _ _) _ | exact bel_q (bel_q (Below.refl _ _) _) _
  clear hq
  have HB20 := hide (HB19.out.trans (hb.mono HB19.out.size))
  have hs20 : w19.heap.size ≤ w20.heap.size := hb.size
  have HXa0_20 := hide (blk_below hb (by omega) HXa0_19.out)
  clear HXa0_19
  have HOW1_20 := hide (HOW1_19.out.below hb)
  clear HOW1_19
  have HOR1_20 := hide (HOR1_19.out.below hb)
  clear HOR1_19
  have HOQ1_20 := hide (HOQ1_19.out.below hb)
  clear HOQ1_19
  clear hb
  go_wp2_with fail
  go_ret
  exact ⟨rfl, HB20.out⟩
end Go.Proofs.Ytpbbedelapnnnaa
