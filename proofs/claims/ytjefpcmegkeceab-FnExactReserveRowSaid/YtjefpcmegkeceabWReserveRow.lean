/- The law FnExactReserveRow, walked. -/
import Derived.Test.YtjefpcmegkeceabFrr
import Derived.Test.YtjefpcmegkeceabMf
import Derived.Test.YtjefpcmegkeceabRow
namespace Go.Proofs.Ytjefpcmegkeceab
open Go.RowKit Go.Dues
set_option maxRecDepth 100000 in
set_option maxHeartbeats 8000000 in
theorem lawReserveRow_any (A : Option Addr) (n c : Nat) (x : Nat → Nat) (v1 : Nat) (w : World) (hm : n ≤ maxLen) (hs : SL w A n (fun j => .float .f32 (x j)))  :
    Calls Try.prog 7 #[.slice A n c, .float .f32 v1] w fun e w' => e = .returned (.bool true) ∧ Below w.heap.size w w' := by
  unfold maxLen at hm
  by_cases h20 : 1048576 < n
  · clear hs
    go_enter Try.func7, Try.ntmps7
    go_wp2
    go_ret
    exact ⟨rfl, Below.refl _ _⟩
  have hn0 : n ≤ 1048576 := by omega
  have HS := hide hs
  clear hs
  obtain ⟨L, hL⟩ : ∃ L, lenV (rrP x n v1) n = L := ⟨_, rfl⟩
  obtain ⟨B, hB⟩ : ∃ B, tru (rrP x n v1) = B := ⟨_, rfl⟩
  have hL1 : L ≤ 1048576 := by rw [← hL]; exact Nat.le_trans (lenV_le _ _) hn0
  have HLL := hide hL
  have HBB := hide hB
  clear hL hB
  obtain ⟨w0, hw0⟩ : ∃ u, u = w := ⟨_, rfl⟩
  have HB0 : Hid (Below w.heap.size w w0) := by rw [hw0]; exact Below.refl _ _
  have hs0 : w.heap.size ≤ w0.heap.size := HB0.out.size
  have HW0 := hide hw0
  go_enter Try.func7, Try.ntmps7
  rw [← hw0]
  clear hw0
  go_wp2_with fail
  refine (toFlW_any A n c x w0 hn0 (HS.out.below HB0.out)).mono ?_
  rintro e w1 ⟨ga, rfl, hb, ho⟩
  have HN := hide ho
  clear ho
  have hs1 : w0.heap.size ≤ w1.heap.size := hb.size
  have HB1 := hide (HB0.out.trans (hb.mono HB0.out.size))
  clear hb
  have HOa_1 := HN
  clear HN
  go_wp2_with fail
  refine (specReserve_any _ n n x v1 w1 (by unfold maxLen; omega) HOa_1.out.sl).mono ?_
  rintro e w2 ⟨GW, dW, zW, rfl, ho, hz, hb⟩
  rw [HLL.out] at ho hz
  rw [HLL.out, HBB.out]
  have HN := hide ho
  have HZW := hide hz
  clear ho hz
  have hs2 : w1.heap.size ≤ w2.heap.size := hb.size
  have HB2 := hide (HB1.out.trans (hb.mono HB1.out.size))
  have HOa_2 := hide (HOa_1.out.below hb)
  clear HOa_1
  clear hb
  have HOW_2 := HN
  clear HN
  clear HOa_2
  go_wp2_with fail
  refine (toFlW_any A n c x w2 hn0 (HS.out.below HB2.out)).mono ?_
  rintro e w3 ⟨gb, rfl, hb, ho⟩
  have HN := hide ho
  clear ho
  have hs3 : w2.heap.size ≤ w3.heap.size := hb.size
  have HB3 := hide (HB2.out.trans (hb.mono HB2.out.size))
  have HOW_3 := hide (HOW_2.out.below hb)
  clear HOW_2
  clear hb
  have HOb_3 := HN
  clear HN
  go_wp2_with fail
  refine (implReserve_any _ n n x v1 w3 (by unfold maxLen; omega) HOb_3.out.sl).mono ?_
  rintro e w4 ⟨GR, dR, zR, rfl, ho, hz, hb⟩
  rw [HLL.out] at ho hz
  rw [HLL.out, HBB.out]
  have HN := hide ho
  have HZR := hide hz
  clear ho hz
  have hs4 : w3.heap.size ≤ w4.heap.size := hb.size
  have HB4 := hide (HB3.out.trans (hb.mono HB3.out.size))
  have HOW_4 := hide (HOW_3.out.below hb)
  clear HOW_3
  have HOb_4 := hide (HOb_3.out.below hb)
  clear HOb_3
  clear hb
  have HOR_4 := HN
  clear HN
  go_wp2_with fail
  refine (eqFl_any _ _ L _ _ zR zW w4 (by unfold maxLen; omega) HOR_4.out.sl HOW_4.out.sl (fun j hj => (HZR.out j hj).trans (HZW.out j hj).symm)).mono ?_
  rintro e w5 ⟨rfl, q, hq⟩
  have hb : Below w4.heap.size w4 w5 := by rw [hq]; exact bel_q (Below.refl _ _) _
  clear hq
  have hs5 : w4.heap.size ≤ w5.heap.size := hb.size
  have HB5 := hide (HB4.out.trans (hb.mono HB4.out.size))
  have HOW_5 := hide (HOW_4.out.below hb)
  clear HOW_4
  have HOb_5 := hide (HOb_4.out.below hb)
  clear HOb_4
  have HOR_5 := hide (HOR_4.out.below hb)
  clear HOR_4
  clear hb
  go_wp2_with fail
  refine (toFlW_any A n c x w5 hn0 (HS.out.below HB5.out)).mono ?_
  rintro e w6 ⟨gt, rfl, hb, ho⟩
  have HN := hide ho
  clear ho
  have hs6 : w5.heap.size ≤ w6.heap.size := hb.size
  have HB6 := hide (HB5.out.trans (hb.mono HB5.out.size))
  have HOW_6 := hide (HOW_5.out.below hb)
  clear HOW_5
  have HOb_6 := hide (HOb_5.out.below hb)
  clear HOb_5
  have HOR_6 := hide (HOR_5.out.below hb)
  clear HOR_5
  clear hb
  have HOt_6 := HN
  clear HN
  go_wp2_with fail
  refine (eqFl_any _ _ n n n x x w6 hm HOb_6.out.sl HOt_6.out.sl (fun _ _ => FS.refl _ _)).mono ?_
  rintro e w7 ⟨rfl, q, hq⟩
  have hb : Below w6.heap.size w6 w7 := by rw [hq]; exact bel_q (Below.refl _ _) _
  clear hq
  have hs7 : w6.heap.size ≤ w7.heap.size := hb.size
  have HB7 := hide (HB6.out.trans (hb.mono HB6.out.size))
  have HOW_7 := hide (HOW_6.out.below hb)
  clear HOW_6
  have HOb_7 := hide (HOb_6.out.below hb)
  clear HOb_6
  have HOR_7 := hide (HOR_6.out.below hb)
  clear HOR_6
  have HOt_7 := hide (HOt_6.out.below hb)
  clear HOt_6
  clear hb
  clear HOt_7
  go_wp2_with fail
  refine (markFl_any _ n _ w2.heap.size w3.heap.size x 1 w7 hn0 (by omega) (by omega) HOb_7.out).mono ?_
  rintro e w8 ⟨rfl, ho, hw⟩
  have HN := hide ho
  clear ho HOb_7
  replace hw : Marked w2.heap.size w3.heap.size w7 w8 := marked_of hw
  have hs8 : w7.heap.size ≤ w8.heap.size := hw.size
  have HB8 := hide (HB7.out.trans (hw.bel (B := w.heap.size) (by omega) (by omega)))
  have HOW_8 := hide (HOW_7.out.marked hw (by omega))
  clear HOW_7
  have HOR_8 := hide (HOR_7.out.marked hw (by omega))
  clear HOR_7
  have HOb_8 := HN
  clear HN hw
  clear HOb_8
  go_wp2_with fail
  refine (eqFl_any _ _ L _ _ zR zW w8 (by unfold maxLen; omega) HOR_8.out.sl HOW_8.out.sl (fun j hj => (HZR.out j hj).trans (HZW.out j hj).symm)).mono ?_
  rintro e w9 ⟨rfl, q, hq⟩
  have hb : Below w8.heap.size w8 w9 := by rw [hq]; exact bel_q (Below.refl _ _) _
  clear hq
  have hs9 : w8.heap.size ≤ w9.heap.size := hb.size
  have HB9 := hide (HB8.out.trans (hb.mono HB8.out.size))
  have HOW_9 := hide (HOW_8.out.below hb)
  clear HOW_8
  have HOR_9 := hide (HOR_8.out.below hb)
  clear HOR_8
  clear hb
  go_wp2_with fail
  refine (markFl_any _ L _ w3.heap.size w4.heap.size zR 1 w9 hL1 (by omega) (by omega) HOR_9.out).mono ?_
  rintro e w10 ⟨rfl, ho, hw⟩
  have HN := hide ho
  clear ho HOR_9
  replace hw : Marked w3.heap.size w4.heap.size w9 w10 := marked_of hw
  have hs10 : w9.heap.size ≤ w10.heap.size := hw.size
  have HB10 := hide (HB9.out.trans (hw.bel (B := w.heap.size) (by omega) (by omega)))
  have HOW_10 := hide (HOW_9.out.marked hw (by omega))
  clear HOW_9
  have HOR_10 := HN
  clear HN hw
  go_wp2_with fail
  refine (heldFl_any _ L _ 1 w10 hL1 (by omega) (by omega) HOR_10.out.sl).mono ?_
  rintro e w11 ⟨rfl, q, hq⟩
  have hb : Below w10.heap.size w10 w11 := by rw [hq]; exact bel_q (Below.refl _ _) _
  clear hq
  have hs11 : w10.heap.size ≤ w11.heap.size := hb.size
  have HB11 := hide (HB10.out.trans (hb.mono HB10.out.size))
  have HOW_11 := hide (HOW_10.out.below hb)
  clear HOW_10
  have HOR_11 := hide (HOR_10.out.below hb)
  clear HOR_10
  clear hb
  go_wp2_with fail
  refine (toFlW_any A n c x w11 hn0 (HS.out.below HB11.out)).mono ?_
  rintro e w12 ⟨gh, rfl, hb, ho⟩
  have HN := hide ho
  clear ho
  have hs12 : w11.heap.size ≤ w12.heap.size := hb.size
  have HB12 := hide (HB11.out.trans (hb.mono HB11.out.size))
  have HOW_12 := hide (HOW_11.out.below hb)
  clear HOW_11
  have HOR_12 := hide (HOR_11.out.below hb)
  clear HOR_11
  clear hb
  have HOh_12 := HN
  clear HN
  go_wp2_with fail
  refine (implReserve_any _ n n x v1 w12 (by unfold maxLen; omega) HOh_12.out.sl).mono ?_
  rintro e w13 ⟨GQ, dQ, zQ, rfl, ho, hz, hb⟩
  rw [HLL.out] at ho hz
  rw [HLL.out, HBB.out]
  have HN := hide ho
  have HZQ := hide hz
  clear ho hz
  have hs13 : w12.heap.size ≤ w13.heap.size := hb.size
  have HB13 := hide (HB12.out.trans (hb.mono HB12.out.size))
  have HOW_13 := hide (HOW_12.out.below hb)
  clear HOW_12
  have HOR_13 := hide (HOR_12.out.below hb)
  clear HOR_12
  have HOh_13 := hide (HOh_12.out.below hb)
  clear HOh_12
  clear hb
  have HOQ_13 := HN
  clear HN
  clear HOh_13
  go_wp2_with fail
  refine (eqFl_any _ _ L _ _ zQ zW w13 (by unfold maxLen; omega) HOQ_13.out.sl HOW_13.out.sl (fun j hj => (HZQ.out j hj).trans (HZW.out j hj).symm)).mono ?_
  rintro e w14 ⟨rfl, q, hq⟩
  have hb : Below w13.heap.size w13 w14 := by rw [hq]; exact bel_q (Below.refl _ _) _
  clear hq
  have hs14 : w13.heap.size ≤ w14.heap.size := hb.size
  have HB14 := hide (HB13.out.trans (hb.mono HB13.out.size))
  have HOW_14 := hide (HOW_13.out.below hb)
  clear HOW_13
  have HOR_14 := hide (HOR_13.out.below hb)
  clear HOR_13
  have HOQ_14 := hide (HOQ_13.out.below hb)
  clear HOQ_13
  clear hb
  go_wp2_with fail
  refine (heldFl_any _ L _ 1 w14 hL1 (by omega) (by omega) HOR_14.out.sl).mono ?_
  rintro e w15 ⟨rfl, q, hq⟩
  have hb : Below w14.heap.size w14 w15 := by rw [hq]; exact bel_q (Below.refl _ _) _
  clear hq
  have hs15 : w14.heap.size ≤ w15.heap.size := hb.size
  have HB15 := hide (HB14.out.trans (hb.mono HB14.out.size))
  have HOW_15 := hide (HOW_14.out.below hb)
  clear HOW_14
  have HOR_15 := hide (HOR_14.out.below hb)
  clear HOR_14
  have HOQ_15 := hide (HOQ_14.out.below hb)
  clear HOQ_14
  clear hb
  go_wp2_with fail
  go_ret
  exact ⟨rfl, by have h := HB15.out; rw [← HW0.out] at h; exact h⟩
end Go.Proofs.Ytjefpcmegkeceab
