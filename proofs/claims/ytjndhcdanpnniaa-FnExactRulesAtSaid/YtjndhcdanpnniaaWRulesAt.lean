/- The law FnExactRulesAt, walked. -/
import Derived.Test.YtjndhcdanpnniaaAt9
import Derived.Test.YtjndhcdanpnniaaRow
namespace Go.Proofs.Ytjndhcdanpnniaa
open Go.RowKit Go.Dues
set_option maxRecDepth 100000 in
set_option maxHeartbeats 16000000 in
theorem lawRulesAt_any (A0 : Option Addr) (n0 c0 : Nat) (x0 : Nat → RV) (v1 : Int) (w : World) (hm0 : n0 ≤ maxLen) (hs0 : RS w A0 n0 x0) (hv0 : ∀ j, j < n0 → (x0 j).ok) (wv1 : -9223372036854775808 ≤ v1 ∧ v1 ≤ 9223372036854775807) :
    Calls Try.prog 8 #[.slice A0 n0 c0, .int .i64 v1] w fun e w' => e = .returned (.bool true) ∧ Below w.heap.size w w' := by
  have HS0 := hide hs0
  clear hs0
  have HVM0 := hide (show ∀ j, j < n0 → (x0 j).n ≤ maxLen from fun j hj => (hv0 j hj).2.2.2.2.1)
  have HV0 := hide hv0
  clear hv0
  have WV1 := hide wv1
  clear wv1
  obtain ⟨w0, hw0⟩ : ∃ u, u = w := ⟨_, rfl⟩
  have HB0 : Hid (Below w.heap.size w w0) := by rw [hw0]; exact Below.refl _ _
  have hs0 : w.heap.size ≤ w0.heap.size := by rw [hw0]; exact Nat.le_refl _
  have HW := hide hw0
  clear hw0
  go_enter Try.func8, Try.ntmps8
  go_wp2_with fail
  rw [← HW.out]
  clear HW
  refine (szRuleS_any A0 n0 c0 x0 1048576 w0 hm0 HVM0.out (HS0.out.below HB0.out) (by omega) (by omega)).mono ?_
  rintro e w1 ⟨q0, rfl, hq0, hb⟩
  replace hb : Below w0.heap.size w0 w1 := ⟨hb.os, hb.tape, hb.output, hb.size, hb.block⟩
  have HB1 := hide (HB0.out.trans (hb.mono HB0.out.size))
  have hs1 : w0.heap.size ≤ w1.heap.size := hb.size
  clear hb
  rcases hq0 with ⟨hg0, hl0⟩ | rfl
  rotate_left
  · go_wp2_with fail
    go_ret
    exact ⟨rfl, HB1.out⟩
  have hn0 : n0 ≤ 1048576 := by omega
  have hr0 : rsum x0 n0 ≤ 1048576 := by omega
  have HVN0 := hide (show ∀ j, j < n0 → (x0 j).n ≤ 1048576 from fun j hj => Nat.le_trans (rsum_mono x0 j n0 hj) hr0)
  have hh0 : q0 ≤ 1048576 := by omega
  have hz0 : ¬ q0 < 0 := by omega
  clear hl0
  obtain ⟨lN, lR, lV⟩ := lenV_rs (p := acP x0 n0 v1) (n := atN x0 n0 v1) (V := atV x0 n0 v1) (fun h => at_ok h)
  go_wp2_with fail
  refine (toRuleS_any A0 n0 c0 x0 w1 hn0 HVN0.out (HS0.out.below HB1.out)).mono ?_
  rintro e w2 ⟨s0, rfl, hg1, hg2, hb, ho⟩
  have HOs0n := hide ho
  clear ho hg1 hg2
  replace hb : Below w1.heap.size w1 w2 := ⟨hb.os, hb.tape, hb.output, hb.size, hb.block⟩
  have HB2 := hide (HB1.out.trans (hb.mono HB1.out.size))
  have hs2 : w1.heap.size ≤ w2.heap.size := hb.size
  clear hb
  have HOs0 := HOs0n
  clear HOs0n
  go_wp2_with fail
  refine (specRulesAtO_any (some ⟨s0, 0, none⟩) n0 n0 x0 v1 w2 hn0 HVN0.out HOs0.out.rs WV1.out).mono ?_
  rintro e w3 ⟨W, Wc, rfl, ho, hb⟩
  have HOWn := hide ho
  clear ho
  replace hb : Below w2.heap.size w2 w3 := ⟨hb.os, hb.tape, hb.output, hb.size, hb.block⟩
  have HB3 := hide (HB2.out.trans (hb.mono HB2.out.size))
  have hs3 : w2.heap.size ≤ w3.heap.size := hb.size
  have HOs0 := hide (HOs0.out.below hb)
  clear hb
  have HOW := HOWn
  clear HOWn
  clear HOs0
  obtain ⟨N, hN⟩ : ∃ q, lenV (acP x0 n0 v1) (atN x0 n0 v1) = q := ⟨_, rfl⟩
  obtain ⟨V, hV⟩ : ∃ q, (atV x0 n0 v1) = q := ⟨_, rfl⟩
  obtain ⟨tb, hT⟩ : ∃ q, tru (acP x0 n0 v1) = q := ⟨_, rfl⟩
  rw [hN] at lN lR lV HOW
  rw [hV] at lR lV HOW
  rw [hN, hT]
  have HNN := hide hN
  have HVV := hide hV
  have HTT := hide hT
  have HLV := hide lV
  have gb : (tb != tb) = false := by cases tb <;> rfl
  clear hN hV hT lV
  go_wp2_with fail
  refine (toRuleS_any A0 n0 c0 x0 w3 hn0 HVN0.out (HS0.out.below HB3.out)).mono ?_
  rintro e w4 ⟨a0, rfl, hg1, hg2, hb, ho⟩
  have HOa0n := hide ho
  clear ho hg1 hg2
  replace hb : Below w3.heap.size w3 w4 := ⟨hb.os, hb.tape, hb.output, hb.size, hb.block⟩
  have HB4 := hide (HB3.out.trans (hb.mono HB3.out.size))
  have hs4 : w3.heap.size ≤ w4.heap.size := hb.size
  have HOW := hide (HOW.out.below hb)
  clear hb
  have HOa0 := HOa0n
  clear HOa0n
  go_wp2_with fail
  refine (implRulesAtO_any (some ⟨a0, 0, none⟩) n0 n0 x0 v1 w4 hn0 HVN0.out HOa0.out.rs WV1.out).mono ?_
  rintro e w5 ⟨R, Rc, rfl, ho, hb⟩
  have HORn := hide ho
  clear ho
  replace hb : Below w4.heap.size w4 w5 := ⟨hb.os, hb.tape, hb.output, hb.size, hb.block⟩
  have HB5 := hide (HB4.out.trans (hb.mono HB4.out.size))
  have hs5 : w4.heap.size ≤ w5.heap.size := hb.size
  have HOW := hide (HOW.out.below hb)
  have HOa0 := hide (HOa0.out.below hb)
  clear hb
  have HOR := HORn
  clear HORn
  rw [HNN.out, HVV.out] at HOR
  rw [HNN.out, HTT.out]
  go_wp2_with fail
  refine (eqRuleS_any _ _ N _ _ V w5 (by unfold maxLen; omega) (fun i hi => Nat.le_trans (HLV.out i hi) (by unfold maxLen; omega)) HOR.out.rs HOW.out.rs).mono ?_
  rintro e w6 ⟨rfl, hb⟩
  replace hb : Below w5.heap.size w5 w6 := ⟨hb.os, hb.tape, hb.output, hb.size, hb.block⟩
  have HB6 := hide (HB5.out.trans (hb.mono HB5.out.size))
  have hs6 : w5.heap.size ≤ w6.heap.size := hb.size
  have HOW := hide (HOW.out.below hb)
  have HOa0 := hide (HOa0.out.below hb)
  have HOR := hide (HOR.out.below hb)
  clear hb
  go_wp2_with fail
  refine (toRuleS_any A0 n0 c0 x0 w6 hn0 HVN0.out (HS0.out.below HB6.out)).mono ?_
  rintro e w7 ⟨t0, rfl, hg1, hg2, hb, ho⟩
  have HOt0n := hide ho
  clear ho hg1 hg2
  replace hb : Below w6.heap.size w6 w7 := ⟨hb.os, hb.tape, hb.output, hb.size, hb.block⟩
  have HB7 := hide (HB6.out.trans (hb.mono HB6.out.size))
  have hs7 : w6.heap.size ≤ w7.heap.size := hb.size
  have HOW := hide (HOW.out.below hb)
  have HOa0 := hide (HOa0.out.below hb)
  have HOR := hide (HOR.out.below hb)
  clear hb
  have HOt0 := HOt0n
  clear HOt0n
  go_wp2_with fail
  refine (eqRuleS_any _ _ n0 _ _ x0 w7 hm0 HVM0.out HOa0.out.rs HOt0.out.rs).mono ?_
  rintro e w8 ⟨rfl, hb⟩
  replace hb : Below w7.heap.size w7 w8 := ⟨hb.os, hb.tape, hb.output, hb.size, hb.block⟩
  have HB8 := hide (HB7.out.trans (hb.mono HB7.out.size))
  have hs8 : w7.heap.size ≤ w8.heap.size := hb.size
  have HOW := hide (HOW.out.below hb)
  have HOa0 := hide (HOa0.out.below hb)
  have HOR := hide (HOR.out.below hb)
  have HOt0 := hide (HOt0.out.below hb)
  clear hb
  clear HOt0
  go_wp2_with fail
  refine (markRuleS_any _ n0 _ w3.heap.size w4.heap.size x0 (1 : Int) w8 hn0 hr0 HVN0.out (by omega) (by omega) (by omega) HOa0.out).mono ?_
  rintro e w9 ⟨rfl, ho, hw⟩
  clear ho
  replace hw : Marked w3.heap.size w4.heap.size w8 w9 := marked_of hw
  have hs9 : w8.heap.size ≤ w9.heap.size := hw.size
  have HB9 := hide (HB8.out.trans (hw.bel (B := w.heap.size) (by omega) (by omega)))
  have HOW := hide (HOW.out.marked hw (by omega))
  have HOR := hide (HOR.out.marked hw (by omega))
  clear hw
  obtain ⟨K0, hK0⟩ : ∃ q : Int, (1 : Int) + (4 * (n0 : Int) + rsum x0 n0) = q := ⟨_, rfl⟩
  have kp0 : 0 ≤ K0 := by omega
  have kq0 : K0 ≤ 20000000 := by omega
  rw [hK0]
  clear hK0
  clear HOa0
  have kz : ¬ K0 < 0 := by omega
  go_wp2_with fail
  refine (eqRuleS_any _ _ N _ _ V w9 (by unfold maxLen; omega) (fun i hi => Nat.le_trans (HLV.out i hi) (by unfold maxLen; omega)) HOR.out.rs HOW.out.rs).mono ?_
  rintro e w10 ⟨rfl, hb⟩
  replace hb : Below w9.heap.size w9 w10 := ⟨hb.os, hb.tape, hb.output, hb.size, hb.block⟩
  have HB10 := hide (HB9.out.trans (hb.mono HB9.out.size))
  have hs10 : w9.heap.size ≤ w10.heap.size := hb.size
  have HOW := hide (HOW.out.below hb)
  have HOR := hide (HOR.out.below hb)
  clear hb
  go_wp2_with fail
  refine (markRuleS_any _ N _ w4.heap.size w5.heap.size V (1 : Int) w10 lN lR HLV.out (by omega) (by omega) (by omega) HOR.out).mono ?_
  rintro e w11 ⟨rfl, ho, hw⟩
  have HORn := hide ho
  clear ho
  replace hw : Marked w4.heap.size w5.heap.size w10 w11 := marked_of hw
  have hs11 : w10.heap.size ≤ w11.heap.size := hw.size
  have HB11 := hide (HB10.out.trans (hw.bel (B := w.heap.size) (by omega) (by omega)))
  have HOW := hide (HOW.out.marked hw (by omega))
  clear hw
  have HOR := HORn
  clear HORn
  obtain ⟨mm, hmm⟩ : ∃ q : Int, (1 : Int) + (4 * (N : Int) + rsum V N) = q := ⟨_, rfl⟩
  rw [hmm]
  have HMM := hide hmm
  have mp : ¬ mm < 0 := by omega
  have mq : (mm != mm) = false := by simp
  clear hmm
  go_wp2_with fail
  refine (heldRuleS_any _ N _ V (1 : Int) w11 lN lR HLV.out (by omega) (by omega) HOR.out.rs).mono ?_
  rintro e w12 ⟨rfl, hb⟩
  replace hb : Below w11.heap.size w11 w12 := ⟨hb.os, hb.tape, hb.output, hb.size, hb.block⟩
  have HB12 := hide (HB11.out.trans (hb.mono HB11.out.size))
  have hs12 : w11.heap.size ≤ w12.heap.size := hb.size
  have HOW := hide (HOW.out.below hb)
  have HOR := hide (HOR.out.below hb)
  clear hb
  rw [HMM.out]
  go_wp2_with fail
  refine (toRuleS_any A0 n0 c0 x0 w12 hn0 HVN0.out (HS0.out.below HB12.out)).mono ?_
  rintro e w13 ⟨h0, rfl, hg1, hg2, hb, ho⟩
  have HOh0n := hide ho
  clear ho hg1 hg2
  replace hb : Below w12.heap.size w12 w13 := ⟨hb.os, hb.tape, hb.output, hb.size, hb.block⟩
  have HB13 := hide (HB12.out.trans (hb.mono HB12.out.size))
  have hs13 : w12.heap.size ≤ w13.heap.size := hb.size
  have HOW := hide (HOW.out.below hb)
  have HOR := hide (HOR.out.below hb)
  clear hb
  have HOh0 := HOh0n
  clear HOh0n
  go_wp2_with fail
  refine (implRulesAtO_any (some ⟨h0, 0, none⟩) n0 n0 x0 v1 w13 hn0 HVN0.out HOh0.out.rs WV1.out).mono ?_
  rintro e w14 ⟨Q, Qc, rfl, ho, hb⟩
  have HOQn := hide ho
  clear ho
  replace hb : Below w13.heap.size w13 w14 := ⟨hb.os, hb.tape, hb.output, hb.size, hb.block⟩
  have HB14 := hide (HB13.out.trans (hb.mono HB13.out.size))
  have hs14 : w13.heap.size ≤ w14.heap.size := hb.size
  have HOW := hide (HOW.out.below hb)
  have HOR := hide (HOR.out.below hb)
  have HOh0 := hide (HOh0.out.below hb)
  clear hb
  have HOQ := HOQn
  clear HOQn
  rw [HNN.out, HVV.out] at HOQ
  rw [HNN.out, HTT.out]
  clear HOh0
  go_wp2_with fail
  refine (eqRuleS_any _ _ N _ _ V w14 (by unfold maxLen; omega) (fun i hi => Nat.le_trans (HLV.out i hi) (by unfold maxLen; omega)) HOQ.out.rs HOW.out.rs).mono ?_
  rintro e w15 ⟨rfl, hb⟩
  replace hb : Below w14.heap.size w14 w15 := ⟨hb.os, hb.tape, hb.output, hb.size, hb.block⟩
  have HB15 := hide (HB14.out.trans (hb.mono HB14.out.size))
  have hs15 : w14.heap.size ≤ w15.heap.size := hb.size
  have HOW := hide (HOW.out.below hb)
  have HOR := hide (HOR.out.below hb)
  have HOQ := hide (HOQ.out.below hb)
  clear hb
  go_wp2_with fail
  refine (heldRuleS_any _ N _ V (1 : Int) w15 lN lR HLV.out (by omega) (by omega) HOR.out.rs).mono ?_
  rintro e w16 ⟨rfl, hb⟩
  replace hb : Below w15.heap.size w15 w16 := ⟨hb.os, hb.tape, hb.output, hb.size, hb.block⟩
  have HB16 := hide (HB15.out.trans (hb.mono HB15.out.size))
  have hs16 : w15.heap.size ≤ w16.heap.size := hb.size
  have HOW := hide (HOW.out.below hb)
  have HOR := hide (HOR.out.below hb)
  have HOQ := hide (HOQ.out.below hb)
  clear hb
  rw [HMM.out]
  go_wp2_with fail
  go_ret
  exact ⟨rfl, HB16.out⟩
end Go.Proofs.Ytjndhcdanpnniaa
