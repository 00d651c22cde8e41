/- The law FnExactAmendRule, walked. -/
import Derived.Test.YtjndhcdanpnniaaAm9
import Derived.Test.YtjndhcdanpnniaaRow
namespace Go.Proofs.Ytjndhcdanpnniaa
open Go.RowKit Go.Dues
set_option maxRecDepth 100000 in
set_option maxHeartbeats 32000000 in
theorem lawAmendRule_any (A0 : Option Addr) (n0 c0 : Nat) (x0 : Nat → RV) (v1 : Int) (v2 : Int) (x3 : RV) (I3 : Option Addr) (c3 : Nat) (w : World) (hm0 : n0 ≤ maxLen) (hs0 : RS w A0 n0 x0) (hv0 : ∀ j, j < n0 → (x0 j).ok) (wv1 : -9223372036854775808 ≤ v1 ∧ v1 ≤ 9223372036854775807) (wv2 : -9223372036854775808 ≤ v2 ∧ v2 ≤ 9223372036854775807) (hv3 : x3.ok) (hs3 : SL w I3 x3.n (fun j => .int .i64 (x3.x j))) :
    Calls Try.prog 7 #[.slice A0 n0 c0, .int .i64 v1, .int .i64 v2, .agg #[.int .i64 x3.h, .slice I3 x3.n c3, .int .i64 x3.f, .int .i64 x3.t, .int .i64 x3.k]] w fun e w' => e = .returned (.bool true) ∧ Below w.heap.size w w' := by
  have HS0 := hide hs0
  clear hs0
  have HVM0 := hide (show ∀ j, j < n0 → (x0 j).n ≤ maxLen from fun j hj => (hv0 j hj).2.2.2.2.1)
  clear hv0
  have WV2 := hide wv2
  clear wv1 wv2
  have HS3 := hide hs3
  have hm3 : x3.n ≤ maxLen := hv3.2.2.2.2.1
  clear hs3 hv3
  obtain ⟨w0, hw0⟩ : ∃ u, u = w.alloc (.cells #[.int .i64 x3.h, .slice I3 x3.n c3, .int .i64 x3.f, .int .i64 x3.t, .int .i64 x3.k] 58) := ⟨_, rfl⟩
  have HB0 : Hid (Below w.heap.size w w0) := by rw [hw0]; exact (Below.refl _ _).alloc (Nat.le_refl _) _
  have hs0 : w.heap.size + 1 ≤ w0.heap.size := by rw [hw0]; simp
  have HXb := hide (show w0.heap[w.heap.size]? = some (.cells #[.int .i64 x3.h, .slice I3 x3.n c3, .int .i64 x3.f, .int .i64 x3.t, .int .i64 x3.k] 58 (0, 0)) by rw [hw0]; exact blocks1 w _)
  have HW := hide hw0
  clear hw0
  go_enter Try.func7, Try.ntmps7
  go_wp2_with fail
  rw [← HW.out]
  clear HW
  refine (szRuleS_any A0 n0 c0 x0 1048576 w0 hm0 HVM0.out (HS0.out.below HB0.out) (by omega) (by omega)).mono ?_
  rintro e w1 ⟨q0, rfl, hq0, hb⟩
  replace hb : Below w0.heap.size w0 w1 := ⟨hb.os, hb.tape, hb.output, hb.size, hb.block⟩
  have HB1 := hide (HB0.out.trans (hb.mono HB0.out.size))
  have hs1 : w0.heap.size ≤ w1.heap.size := hb.size
  have HXb := hide (blk_below hb (by omega) HXb.out)
  clear hb
  rcases hq0 with ⟨hg0, hl0⟩ | rfl
  rotate_left
  · go_wp2_with fail
    go_ret
    exact ⟨rfl, HB1.out⟩
  have hn0 : n0 ≤ 1048576 := by omega
  have hr0 : rsum x0 n0 ≤ 1048576 := by omega
  have HVN0 := hide (show ∀ j, j < n0 → (x0 j).n ≤ 1048576 from fun j hj => Nat.le_trans (rsum_mono x0 j n0 hj) hr0)
  have hh0 : q0 ≤ 1048576 := by omega
  have hz0 : ¬ q0 < 0 := by omega
  clear hl0
  have k0 := Joins.cell_of_block HXb.out 0
  have k1 := Joins.cell_of_block HXb.out 1
  have k2 := Joins.cell_of_block HXb.out 2
  have k3 := Joins.cell_of_block HXb.out 3
  have k4 := Joins.cell_of_block HXb.out 4
  simp at k0 k1 k2 k3 k4
  go_wp2_with fail
  refine (szRule_any x3.h I3 x3.n c3 x3.f x3.t x3.k q0 w1 hm3 hg0 hh0).mono ?_
  rintro e w2 ⟨q3, rfl, hq3, hb⟩
  replace hb : Below w1.heap.size w1 w2 := ⟨hb.os, hb.tape, hb.output, hb.size, hb.block⟩
  have HB2 := hide (HB1.out.trans (hb.mono HB1.out.size))
  have hs2 : w1.heap.size ≤ w2.heap.size := hb.size
  have HXb := hide (blk_below hb (by omega) HXb.out)
  clear hb
  clear k0 k1 k2 k3 k4
  rcases hq3 with ⟨hg3, hl3⟩ | ⟨_, rfl⟩
  rotate_left
  · go_wp2_with fail
    go_ret
    exact ⟨rfl, HB2.out⟩
  have hn3 : x3.n ≤ 1048576 := by omega
  have hh3 : q3 ≤ 1048576 := by omega
  have hz3 : ¬ q3 < 0 := by omega
  clear hl3
  obtain ⟨lN, lR, lV⟩ := lenV_rs (p := amP x0 n0 v1 v2 x3) (n := n0 + 1) (V := amV x0 n0 v1 v2 x3) (fun h => am_ok h)
  have k0 := Joins.cell_of_block HXb.out 0
  have k1 := Joins.cell_of_block HXb.out 1
  have k2 := Joins.cell_of_block HXb.out 2
  have k3 := Joins.cell_of_block HXb.out 3
  have k4 := Joins.cell_of_block HXb.out 4
  simp at k0 k1 k2 k3 k4
  have HSA := hide (HS0.out.below HB2.out)
  go_wp2_with fail
  go_region_held3 (fun u => u.cell? ⟨w.heap.size, 0, none⟩ = some (.int .i64 x3.h) ∧ u.cell? ⟨w.heap.size, 1, none⟩ = some (.slice I3 x3.n c3) ∧ u.cell? ⟨w.heap.size, 2, none⟩ = some (.int .i64 x3.f) ∧ u.cell? ⟨w.heap.size, 3, none⟩ = some (.int .i64 x3.t) ∧ u.cell? ⟨w.heap.size, 4, none⟩ = some (.int .i64 x3.k)) ((first | exact ⟨k0, k1, k2, k3, k4⟩ | exact ⟨ka0, ka1, ka2, ka3, ka4⟩ | exact ⟨kb0, kb1, kb2, kb3, kb4⟩ | exact ⟨kc0, kc1, kc2, kc3, kc4⟩)) (first | (go_at_call 36; refine (toRuleS_any A0 n0 c0 x0 _ hn0 HVN0.out (by exact HSA.out)).mono ?_; rintro e w3 ⟨s0, rfl, hg1, hg2, hb, ho⟩; have HSB := hide (HS3.out.below (show Below w.heap.size w w3 from HB2.out.trans ((show Below w2.heap.size w2 w3 from ⟨hb.os, hb.tape, hb.output, hb.size, hb.block⟩).mono HB2.out.size))); have HOs0 := hide (show RO w3 w2.heap.size w3.heap.size (some ⟨s0, 0, none⟩) n0 x0 from ho); clear ho hg1 hg2; replace hb : Below w2.heap.size w2 w3 := ⟨hb.os, hb.tape, hb.output, hb.size, hb.block⟩; have HB3 := hide (HB2.out.trans (hb.mono HB2.out.size)); have hs3 : w2.heap.size ≤ w3.heap.size := hb.size; have HXb := hide (blk_below hb (by omega) HXb.out); clear hb; have ka0 := Joins.cell_of_block HXb.out 0; have ka1 := Joins.cell_of_block HXb.out 1; have ka2 := Joins.cell_of_block HXb.out 2; have ka3 := Joins.cell_of_block HXb.out 3; have ka4 := Joins.cell_of_block HXb.out 4; simp at ka0 ka1 ka2 ka3 ka4; simp only []) | (go_at_call 43; refine (toRule_any x3.h I3 x3.n c3 x3.x x3.f x3.t x3.k _ hn3 (by exact HSB.out)).mono ?_; rintro e w4 ⟨s3, rfl, hg1, hg2, hb, ho⟩; have HOs3 := hide (show OW w4 w3.heap.size w4.heap.size (some ⟨s3, 0, none⟩) x3.n (fun j => .int .i64 (x3.x j)) from ho); clear ho hg1 hg2; replace hb : Below w3.heap.size w3 w4 := ⟨hb.os, hb.tape, hb.output, hb.size, hb.block⟩; have HB4 := hide (HB3.out.trans (hb.mono HB3.out.size)); have hs4 : w3.heap.size ≤ w4.heap.size := hb.size; have HOs0 := hide (HOs0.out.below hb); have HXb := hide (blk_below hb (by omega) HXb.out); clear hb; have kb0 := Joins.cell_of_block HXb.out 0; have kb1 := Joins.cell_of_block HXb.out 1; have kb2 := Joins.cell_of_block HXb.out 2; have kb3 := Joins.cell_of_block HXb.out 3; have kb4 := Joins.cell_of_block HXb.out 4; simp at kb0 kb1 kb2 kb3 kb4; simp only []) | (go_at_call 42; refine (specAmendO_any (some ⟨s0, 0, none⟩) n0 n0 x0 v1 v2 x3 (some ⟨s3, 0, none⟩) x3.n _ hn0 HVN0.out (by exact HOs0.out.rs) WV2.out hn3 (by exact HOs3.out.sl)).mono ?_; rintro e w5 ⟨W, Wc, rfl, ho, hb⟩; have HOW := hide (show RO w5 w4.heap.size w5.heap.size W (lenV (amP x0 n0 v1 v2 x3) (n0 + 1)) (amV x0 n0 v1 v2 x3) from ho); clear ho; replace hb : Below w4.heap.size w4 w5 := ⟨hb.os, hb.tape, hb.output, hb.size, hb.block⟩; have HB5 := hide (HB4.out.trans (hb.mono HB4.out.size)); have hs5 : w4.heap.size ≤ w5.heap.size := hb.size; have HXb := hide (blk_below hb (by omega) HXb.out); clear hb HOs0 HOs3; have kc0 := Joins.cell_of_block HXb.out 0; have kc1 := Joins.cell_of_block HXb.out 1; have kc2 := Joins.cell_of_block HXb.out 2; have kc3 := Joins.cell_of_block HXb.out 3; have kc4 := Joins.cell_of_block HXb.out 4; simp at kc0 kc1 kc2 kc3 kc4; simp only []))
  clear k0 k1 k2 k3 k4 ka0 ka1 ka2 ka3 ka4 kb0 kb1 kb2 kb3 kb4 kc0 kc1 kc2 kc3 kc4
  obtain ⟨N, hN⟩ : ∃ q, lenV (amP x0 n0 v1 v2 x3) (n0 + 1) = q := ⟨_, rfl⟩
  obtain ⟨V, hV⟩ : ∃ q, (amV x0 n0 v1 v2 x3) = q := ⟨_, rfl⟩
  obtain ⟨tb, hT⟩ : ∃ q, tru (amP x0 n0 v1 v2 x3) = q := ⟨_, rfl⟩
  rw [hN] at lN lR lV HOW
  rw [hV] at lR lV HOW
  rw [hN, hT]
  have HNN := hide hN
  have HVV := hide hV
  have HTT := hide hT
  have HLV := hide lV
  have gb : (tb != tb) = false := by cases tb <;> rfl
  clear hN hV hT lV
  go_wp2_with fail
  refine (toRuleS_any A0 n0 c0 x0 w5 hn0 HVN0.out (HS0.out.below HB5.out)).mono ?_
  rintro e w6 ⟨a0, rfl, hg1, hg2, hb, ho⟩
  have HOa0n := hide ho
  clear ho hg1 hg2
  replace hb : Below w5.heap.size w5 w6 := ⟨hb.os, hb.tape, hb.output, hb.size, hb.block⟩
  have HB6 := hide (HB5.out.trans (hb.mono HB5.out.size))
  have hs6 : w5.heap.size ≤ w6.heap.size := hb.size
  have HOW := hide (HOW.out.below hb)
  have HXb := hide (blk_below hb (by omega) HXb.out)
  clear hb
  have HOa0 := HOa0n
  clear HOa0n
  have k0 := Joins.cell_of_block HXb.out 0
  have k1 := Joins.cell_of_block HXb.out 1
  have k2 := Joins.cell_of_block HXb.out 2
  have k3 := Joins.cell_of_block HXb.out 3
  have k4 := Joins.cell_of_block HXb.out 4
  simp at k0 k1 k2 k3 k4
  go_wp2_with fail
  refine (toRule_any x3.h I3 x3.n c3 x3.x x3.f x3.t x3.k w6 hn3 (HS3.out.below HB6.out)).mono ?_
  rintro e w7 ⟨a3, rfl, hg1, hg2, hb, ho⟩
  have HOa3n := hide ho
  clear ho hg1 hg2
  replace hb : Below w6.heap.size w6 w7 := ⟨hb.os, hb.tape, hb.output, hb.size, hb.block⟩
  have HB7 := hide (HB6.out.trans (hb.mono HB6.out.size))
  have hs7 : w6.heap.size ≤ w7.heap.size := hb.size
  have HOW := hide (HOW.out.below hb)
  have HOa0 := hide (HOa0.out.below hb)
  have HXb := hide (blk_below hb (by omega) HXb.out)
  clear hb
  have HOa3 := HOa3n
  clear HOa3n k0 k1 k2 k3 k4
  obtain ⟨w8, hwe⟩ : ∃ u, u = w7.alloc (.cells #[.int .i64 x3.h, .slice (some ⟨a3, 0, none⟩) x3.n x3.n, .int .i64 x3.f, .int .i64 x3.t, .int .i64 x3.k] 61) := ⟨_, rfl⟩
  have hb : Below w7.heap.size w7 w8 := by rw [hwe]; exact (Below.refl _ _).alloc (Nat.le_refl _) _
  have HXxn := hide (show w8.heap[w7.heap.size]? = some (.cells #[.int .i64 x3.h, .slice (some ⟨a3, 0, none⟩) x3.n x3.n, .int .i64 x3.f, .int .i64 x3.t, .int .i64 x3.k] 61 (0, 0)) by rw [hwe]; exact blocks1 w7 _)
  have hsx : w7.heap.size + 1 ≤ w8.heap.size := by rw [hwe]; simp
  have HWE := hide hwe
  clear hwe
  replace hb : Below w7.heap.size w7 w8 := ⟨hb.os, hb.tape, hb.output, hb.size, hb.block⟩
  have HB8 := hide (HB7.out.trans (hb.mono HB7.out.size))
  have hs8 : w7.heap.size ≤ w8.heap.size := hb.size
  have HOW := hide (HOW.out.below hb)
  have HOa0 := hide (HOa0.out.below hb)
  have HOa3 := hide (HOa3.out.below hb)
  have HXb := hide (blk_below hb (by omega) HXb.out)
  clear hb
  have HXx := HXxn
  clear HXxn
  go_wp2_with fail
  refine (implAmendO_any (some ⟨a0, 0, none⟩) n0 n0 x0 v1 v2 x3 (some ⟨a3, 0, none⟩) x3.n _ hn0 HVN0.out (by rw [← HWE.out]; exact HOa0.out.rs) WV2.out hn3 (by rw [← HWE.out]; exact HOa3.out.sl)).mono ?_
  rintro e w9 hgv
  rw [← HWE.out] at hgv
  obtain ⟨R, Rc, rfl, ho, hb⟩ := hgv
  have HORn := hide ho
  clear ho HWE
  replace hb : Below w8.heap.size w8 w9 := ⟨hb.os, hb.tape, hb.output, hb.size, hb.block⟩
  have HB9 := hide (HB8.out.trans (hb.mono HB8.out.size))
  have hs9 : w8.heap.size ≤ w9.heap.size := hb.size
  have HOW := hide (HOW.out.below hb)
  have HOa0 := hide (HOa0.out.below hb)
  have HOa3 := hide (HOa3.out.below hb)
  have HXb := hide (blk_below hb (by omega) HXb.out)
  have HXx := hide (blk_below hb (by omega) HXx.out)
  clear hb
  have HOR := HORn
  clear HORn
  rw [HNN.out, HVV.out] at HOR
  rw [HNN.out, HTT.out]
  go_wp2_with fail
  refine (eqRuleS_any _ _ N _ _ V w9 (by unfold maxLen; omega) (fun i hi => Nat.le_trans (HLV.out i hi) (by unfold maxLen; omega)) HOR.out.rs HOW.out.rs).mono ?_
  rintro e w10 ⟨rfl, hb⟩
  replace hb : Below w9.heap.size w9 w10 := ⟨hb.os, hb.tape, hb.output, hb.size, hb.block⟩
  have HB10 := hide (HB9.out.trans (hb.mono HB9.out.size))
  have hs10 : w9.heap.size ≤ w10.heap.size := hb.size
  have HOW := hide (HOW.out.below hb)
  have HOa0 := hide (HOa0.out.below hb)
  have HOa3 := hide (HOa3.out.below hb)
  have HOR := hide (HOR.out.below hb)
  have HXb := hide (blk_below hb (by omega) HXb.out)
  have HXx := hide (blk_below hb (by omega) HXx.out)
  clear hb
  go_wp2_with fail
  refine (toRuleS_any A0 n0 c0 x0 w10 hn0 HVN0.out (HS0.out.below HB10.out)).mono ?_
  rintro e w11 ⟨t0, rfl, hg1, hg2, hb, ho⟩
  have HOt0n := hide ho
  clear ho hg1 hg2
  replace hb : Below w10.heap.size w10 w11 := ⟨hb.os, hb.tape, hb.output, hb.size, hb.block⟩
  have HB11 := hide (HB10.out.trans (hb.mono HB10.out.size))
  have hs11 : w10.heap.size ≤ w11.heap.size := hb.size
  have HOW := hide (HOW.out.below hb)
  have HOa0 := hide (HOa0.out.below hb)
  have HOa3 := hide (HOa3.out.below hb)
  have HOR := hide (HOR.out.below hb)
  have HXb := hide (blk_below hb (by omega) HXb.out)
  have HXx := hide (blk_below hb (by omega) HXx.out)
  clear hb
  have HOt0 := HOt0n
  clear HOt0n
  go_wp2_with fail
  refine (eqRuleS_any _ _ n0 _ _ x0 w11 hm0 HVM0.out HOa0.out.rs HOt0.out.rs).mono ?_
  rintro e w12 ⟨rfl, hb⟩
  replace hb : Below w11.heap.size w11 w12 := ⟨hb.os, hb.tape, hb.output, hb.size, hb.block⟩
  have HB12 := hide (HB11.out.trans (hb.mono HB11.out.size))
  have hs12 : w11.heap.size ≤ w12.heap.size := hb.size
  have HOW := hide (HOW.out.below hb)
  have HOa0 := hide (HOa0.out.below hb)
  have HOa3 := hide (HOa3.out.below hb)
  have HOR := hide (HOR.out.below hb)
  have HOt0 := hide (HOt0.out.below hb)
  have HXb := hide (blk_below hb (by omega) HXb.out)
  have HXx := hide (blk_below hb (by omega) HXx.out)
  clear hb
  clear HOt0
  have k0 := Joins.cell_of_block HXb.out 0
  have k1 := Joins.cell_of_block HXb.out 1
  have k2 := Joins.cell_of_block HXb.out 2
  have k3 := Joins.cell_of_block HXb.out 3
  have k4 := Joins.cell_of_block HXb.out 4
  simp at k0 k1 k2 k3 k4
  have p0 := Joins.cell_of_block HXx.out 0
  have p1 := Joins.cell_of_block HXx.out 1
  have p2 := Joins.cell_of_block HXx.out 2
  have p3 := Joins.cell_of_block HXx.out 3
  have p4 := Joins.cell_of_block HXx.out 4
  simp at p0 p1 p2 p3 p4
  have HSB := hide (HS3.out.below HB12.out)
  go_wp2_with fail
  go_region_held3 (fun u => u.cell? ⟨w.heap.size, 0, none⟩ = some (.int .i64 x3.h) ∧ u.cell? ⟨w.heap.size, 1, none⟩ = some (.slice I3 x3.n c3) ∧ u.cell? ⟨w.heap.size, 2, none⟩ = some (.int .i64 x3.f) ∧ u.cell? ⟨w.heap.size, 3, none⟩ = some (.int .i64 x3.t) ∧ u.cell? ⟨w.heap.size, 4, none⟩ = some (.int .i64 x3.k) ∧ u.cell? ⟨w7.heap.size, 0, none⟩ = some (.int .i64 x3.h) ∧ u.cell? ⟨w7.heap.size, 1, none⟩ = some (.slice (some ⟨a3, 0, none⟩) x3.n x3.n) ∧ u.cell? ⟨w7.heap.size, 2, none⟩ = some (.int .i64 x3.f) ∧ u.cell? ⟨w7.heap.size, 3, none⟩ = some (.int .i64 x3.t) ∧ u.cell? ⟨w7.heap.size, 4, none⟩ = some (.int .i64 x3.k)) ((first | exact ⟨k0, k1, k2, k3, k4, p0, p1, p2, p3, p4⟩ | exact ⟨ka0, ka1, ka2, ka3, ka4, pa0, pa1, pa2, pa3, pa4⟩ | exact ⟨kb0, kb1, kb2, kb3, kb4, pb0, pb1, pb2, pb3, pb4⟩)) (first | (go_at_call 43; refine (toRule_any x3.h I3 x3.n c3 x3.x x3.f x3.t x3.k _ hn3 (by exact HSB.out)).mono ?_; rintro e w13 ⟨t3, rfl, hg1, hg2, hb, ho⟩; have HOt3 := hide (show OW w13 w12.heap.size w13.heap.size (some ⟨t3, 0, none⟩) x3.n (fun j => .int .i64 (x3.x j)) from ho); clear ho hg1 hg2; replace hb : Below w12.heap.size w12 w13 := ⟨hb.os, hb.tape, hb.output, hb.size, hb.block⟩; have HB13 := hide (HB12.out.trans (hb.mono HB12.out.size)); have hs13 : w12.heap.size ≤ w13.heap.size := hb.size; have HOW := hide (HOW.out.below hb); have HOa0 := hide (HOa0.out.below hb); have HOa3 := hide (HOa3.out.below hb); have HOR := hide (HOR.out.below hb); have HXb := hide (blk_below hb (by omega) HXb.out); have HXx := hide (blk_below hb (by omega) HXx.out); clear hb; have ka0 := Joins.cell_of_block HXb.out 0; have ka1 := Joins.cell_of_block HXb.out 1; have ka2 := Joins.cell_of_block HXb.out 2; have ka3 := Joins.cell_of_block HXb.out 3; have ka4 := Joins.cell_of_block HXb.out 4; simp at ka0 ka1 ka2 ka3 ka4; have pa0 := Joins.cell_of_block HXx.out 0; have pa1 := Joins.cell_of_block HXx.out 1; have pa2 := Joins.cell_of_block HXx.out 2; have pa3 := Joins.cell_of_block HXx.out 3; have pa4 := Joins.cell_of_block HXx.out 4; simp at pa0 pa1 pa2 pa3 pa4; simp only []) | (go_at_call 45; refine (eqRule_any x3.h _ _ x3.n _ _ x3.x x3.f x3.t x3.k _ hm3 (by exact HOa3.out.sl) (by exact HOt3.out.sl)).mono ?_; rintro e w14 ⟨rfl, hb⟩; replace hb : Below w13.heap.size w13 w14 := ⟨hb.os, hb.tape, hb.output, hb.size, hb.block⟩; have HB14 := hide (HB13.out.trans (hb.mono HB13.out.size)); have hs14 : w13.heap.size ≤ w14.heap.size := hb.size; have HOW := hide (HOW.out.below hb); have HOa0 := hide (HOa0.out.below hb); have HOa3 := hide (HOa3.out.below hb); have HOR := hide (HOR.out.below hb); have HXb := hide (blk_below hb (by omega) HXb.out); have HXx := hide (blk_below hb (by omega) HXx.out); clear hb HOt3; have kb0 := Joins.cell_of_block HXb.out 0; have kb1 := Joins.cell_of_block HXb.out 1; have kb2 := Joins.cell_of_block HXb.out 2; have kb3 := Joins.cell_of_block HXb.out 3; have kb4 := Joins.cell_of_block HXb.out 4; simp at kb0 kb1 kb2 kb3 kb4; have pb0 := Joins.cell_of_block HXx.out 0; have pb1 := Joins.cell_of_block HXx.out 1; have pb2 := Joins.cell_of_block HXx.out 2; have pb3 := Joins.cell_of_block HXx.out 3; have pb4 := Joins.cell_of_block HXx.out 4; simp at pb0 pb1 pb2 pb3 pb4; simp only []))
  clear k0 k1 k2 k3 k4 p0 p1 p2 p3 p4 ka0 ka1 ka2 ka3 ka4 pa0 pa1 pa2 pa3 pa4 kb0 kb1 kb2 kb3 kb4 pb0 pb1 pb2 pb3 pb4
  go_wp2_with fail
  refine (markRuleS_any _ n0 _ w5.heap.size w6.heap.size x0 (1 : Int) w14 hn0 hr0 HVN0.out (by omega) (by omega) (by omega) HOa0.out).mono ?_
  rintro e w15 ⟨rfl, ho, hw⟩
  clear ho
  replace hw : Marked w5.heap.size w6.heap.size w14 w15 := marked_of hw
  have hs15 : w14.heap.size ≤ w15.heap.size := hw.size
  have HB15 := hide (HB14.out.trans (hw.bel (B := w.heap.size) (by omega) (by omega)))
  have HOW := hide (HOW.out.marked hw (by omega))
  have HOa3 := hide (HOa3.out.marked hw (by omega))
  have HOR := hide (HOR.out.marked hw (by omega))
  have HXb := hide (blk_marked hw (by omega) (by omega) HXb.out)
  have HXx := hide (blk_marked hw (by omega) (by omega) HXx.out)
  clear hw
  clear HOa0
  obtain ⟨K0, hK0⟩ : ∃ q : Int, (1 : Int) + (4 * (n0 : Int) + rsum x0 n0) = q := ⟨_, rfl⟩
  have kp0 : 0 ≤ K0 := by omega
  have kq0 : K0 ≤ 20000000 := by omega
  rw [hK0]
  clear hK0
  have p0 := Joins.cell_of_block HXx.out 0
  have p1 := Joins.cell_of_block HXx.out 1
  have p2 := Joins.cell_of_block HXx.out 2
  have p3 := Joins.cell_of_block HXx.out 3
  have p4 := Joins.cell_of_block HXx.out 4
  simp at p0 p1 p2 p3 p4
  go_wp2_with fail
  refine (markRule_any x3 (some ⟨a3, 0, none⟩) _ w6.heap.size w7.heap.size K0 w15 hn3 kp0 (by omega) HOa3.out).mono ?_
  rintro e w16 ⟨rfl, hw⟩
  have hw := hw
  clear p0 p1 p2 p3 p4
  have hs16 : w15.heap.size ≤ w16.heap.size := hw.size
  have HB16 := hide (HB15.out.trans (hw.bel (B := w.heap.size) (by omega) (by omega)))
  clear HXx
  have HOW := hide (HOW.out.marked hw (by omega))
  have HOR := hide (HOR.out.marked hw (by omega))
  have HXb := hide (blk_marked hw (by omega) (by omega) HXb.out)
  clear hw
  clear HOa3
  obtain ⟨K3, hK3⟩ : ∃ q : Int, K0 + (x3.n : Int) = q := ⟨_, rfl⟩
  have kp3 : 0 ≤ K3 := by omega
  have kq3 : K3 ≤ 40000000 := by omega
  rw [hK3]
  clear hK3
  have kz : ¬ K3 < 0 := by omega
  go_wp2_with fail
  refine (eqRuleS_any _ _ N _ _ V w16 (by unfold maxLen; omega) (fun i hi => Nat.le_trans (HLV.out i hi) (by unfold maxLen; omega)) HOR.out.rs HOW.out.rs).mono ?_
  rintro e w17 ⟨rfl, hb⟩
  replace hb : Below w16.heap.size w16 w17 := ⟨hb.os, hb.tape, hb.output, hb.size, hb.block⟩
  have HB17 := hide (HB16.out.trans (hb.mono HB16.out.size))
  have hs17 : w16.heap.size ≤ w17.heap.size := hb.size
  have HOW := hide (HOW.out.below hb)
  have HOR := hide (HOR.out.below hb)
  have HXb := hide (blk_below hb (by omega) HXb.out)
  clear hb
  go_wp2_with fail
  refine (markRuleS_any _ N _ w8.heap.size w9.heap.size V (1 : Int) w17 lN lR HLV.out (by omega) (by omega) (by omega) HOR.out).mono ?_
  rintro e w18 ⟨rfl, ho, hw⟩
  have HORn := hide ho
  clear ho
  replace hw : Marked w8.heap.size w9.heap.size w17 w18 := marked_of hw
  have hs18 : w17.heap.size ≤ w18.heap.size := hw.size
  have HB18 := hide (HB17.out.trans (hw.bel (B := w.heap.size) (by omega) (by omega)))
  have HOW := hide (HOW.out.marked hw (by omega))
  have HXb := hide (blk_marked hw (by omega) (by omega) HXb.out)
  clear hw
  have HOR := HORn
  clear HORn
  obtain ⟨mm, hmm⟩ : ∃ q : Int, (1 : Int) + (4 * (N : Int) + rsum V N) = q := ⟨_, rfl⟩
  rw [hmm]
  have HMM := hide hmm
  have mp : ¬ mm < 0 := by omega
  have mq : (mm != mm) = false := by simp
  clear hmm
  go_wp2_with fail
  refine (heldRuleS_any _ N _ V (1 : Int) w18 lN lR HLV.out (by omega) (by omega) HOR.out.rs).mono ?_
  rintro e w19 ⟨rfl, hb⟩
  replace hb : Below w18.heap.size w18 w19 := ⟨hb.os, hb.tape, hb.output, hb.size, hb.block⟩
  have HB19 := hide (HB18.out.trans (hb.mono HB18.out.size))
  have hs19 : w18.heap.size ≤ w19.heap.size := hb.size
  have HOW := hide (HOW.out.below hb)
  have HOR := hide (HOR.out.below hb)
  have HXb := hide (blk_below hb (by omega) HXb.out)
  clear hb
  rw [HMM.out]
  have k0 := Joins.cell_of_block HXb.out 0
  have k1 := Joins.cell_of_block HXb.out 1
  have k2 := Joins.cell_of_block HXb.out 2
  have k3 := Joins.cell_of_block HXb.out 3
  have k4 := Joins.cell_of_block HXb.out 4
  simp at k0 k1 k2 k3 k4
  have HSA := hide (HS0.out.below HB19.out)
  go_wp2_with fail
  go_region_held3 (fun u => u.cell? ⟨w.heap.size, 0, none⟩ = some (.int .i64 x3.h) ∧ u.cell? ⟨w.heap.size, 1, none⟩ = some (.slice I3 x3.n c3) ∧ u.cell? ⟨w.heap.size, 2, none⟩ = some (.int .i64 x3.f) ∧ u.cell? ⟨w.heap.size, 3, none⟩ = some (.int .i64 x3.t) ∧ u.cell? ⟨w.heap.size, 4, none⟩ = some (.int .i64 x3.k)) ((first | exact ⟨k0, k1, k2, k3, k4⟩ | exact ⟨ka0, ka1, ka2, ka3, ka4⟩ | exact ⟨kb0, kb1, kb2, kb3, kb4⟩ | exact ⟨kc0, kc1, kc2, kc3, kc4⟩)) (first | (go_at_call 36; refine (toRuleS_any A0 n0 c0 x0 _ hn0 HVN0.out (by exact HSA.out)).mono ?_; rintro e w20 ⟨h0, rfl, hg1, hg2, hb, ho⟩; have HSB := hide (HS3.out.below (show Below w.heap.size w w20 from HB19.out.trans ((show Below w19.heap.size w19 w20 from ⟨hb.os, hb.tape, hb.output, hb.size, hb.block⟩).mono HB19.out.size))); have HOh0 := hide (show RO w20 w19.heap.size w20.heap.size (some ⟨h0, 0, none⟩) n0 x0 from ho); clear ho hg1 hg2; replace hb : Below w19.heap.size w19 w20 := ⟨hb.os, hb.tape, hb.output, hb.size, hb.block⟩; have HB20 := hide (HB19.out.trans (hb.mono HB19.out.size)); have hs20 : w19.heap.size ≤ w20.heap.size := hb.size; have HOW := hide (HOW.out.below hb); have HOR := hide (HOR.out.below hb); have HXb := hide (blk_below hb (by omega) HXb.out); clear hb; have ka0 := Joins.cell_of_block HXb.out 0; have ka1 := Joins.cell_of_block HXb.out 1; have ka2 := Joins.cell_of_block HXb.out 2; have ka3 := Joins.cell_of_block HXb.out 3; have ka4 := Joins.cell_of_block HXb.out 4; simp at ka0 ka1 ka2 ka3 ka4; simp only []) | (go_at_call 43; refine (toRule_any x3.h I3 x3.n c3 x3.x x3.f x3.t x3.k _ hn3 (by exact HSB.out)).mono ?_; rintro e w21 ⟨h3, rfl, hg1, hg2, hb, ho⟩; have HOh3 := hide (show OW w21 w20.heap.size w21.heap.size (some ⟨h3, 0, none⟩) x3.n (fun j => .int .i64 (x3.x j)) from ho); clear ho hg1 hg2; replace hb : Below w20.heap.size w20 w21 := ⟨hb.os, hb.tape, hb.output, hb.size, hb.block⟩; have HB21 := hide (HB20.out.trans (hb.mono HB20.out.size)); have hs21 : w20.heap.size ≤ w21.heap.size := hb.size; have HOW := hide (HOW.out.below hb); have HOR := hide (HOR.out.below hb); have HOh0 := hide (HOh0.out.below hb); have HXb := hide (blk_below hb (by omega) HXb.out); clear hb; have kb0 := Joins.cell_of_block HXb.out 0; have kb1 := Joins.cell_of_block HXb.out 1; have kb2 := Joins.cell_of_block HXb.out 2; have kb3 := Joins.cell_of_block HXb.out 3; have kb4 := Joins.cell_of_block HXb.out 4; simp at kb0 kb1 kb2 kb3 kb4; simp only []) | (go_at_call 44; refine (implAmendO_any (some ⟨h0, 0, none⟩) n0 n0 x0 v1 v2 x3 (some ⟨h3, 0, none⟩) x3.n _ hn0 HVN0.out (by exact HOh0.out.rs) WV2.out hn3 (by exact HOh3.out.sl)).mono ?_; rintro e w22 ⟨Q, Qc, rfl, ho, hb⟩; have HOQ := hide (show RO w22 w21.heap.size w22.heap.size Q (lenV (amP x0 n0 v1 v2 x3) (n0 + 1)) (amV x0 n0 v1 v2 x3) from ho); clear ho; replace hb : Below w21.heap.size w21 w22 := ⟨hb.os, hb.tape, hb.output, hb.size, hb.block⟩; have HB22 := hide (HB21.out.trans (hb.mono HB21.out.size)); have hs22 : w21.heap.size ≤ w22.heap.size := hb.size; have HOW := hide (HOW.out.below hb); have HOR := hide (HOR.out.below hb); have HXb := hide (blk_below hb (by omega) HXb.out); clear hb HOh0 HOh3; have kc0 := Joins.cell_of_block HXb.out 0; have kc1 := Joins.cell_of_block HXb.out 1; have kc2 := Joins.cell_of_block HXb.out 2; have kc3 := Joins.cell_of_block HXb.out 3; have kc4 := Joins.cell_of_block HXb.out 4; simp at kc0 kc1 kc2 kc3 kc4; simp only []))
  clear k0 k1 k2 k3 k4 ka0 ka1 ka2 ka3 ka4 kb0 kb1 kb2 kb3 kb4 kc0 kc1 kc2 kc3 kc4
  rw [HNN.out, HVV.out] at HOQ
  rw [HNN.out, HTT.out]
  go_wp2_with fail
  refine (eqRuleS_any _ _ N _ _ V w22 (by unfold maxLen; omega) (fun i hi => Nat.le_trans (HLV.out i hi) (by unfold maxLen; omega)) HOQ.out.rs HOW.out.rs).mono ?_
  rintro e w23 ⟨rfl, hb⟩
  replace hb : Below w22.heap.size w22 w23 := ⟨hb.os, hb.tape, hb.output, hb.size, hb.block⟩
  have HB23 := hide (HB22.out.trans (hb.mono HB22.out.size))
  have hs23 : w22.heap.size ≤ w23.heap.size := hb.size
  have HOW := hide (HOW.out.below hb)
  have HOR := hide (HOR.out.below hb)
  have HOQ := hide (HOQ.out.below hb)
  have HXb := hide (blk_below hb (by omega) HXb.out)
  clear hb
  go_wp2_with fail
  refine (heldRuleS_any _ N _ V (1 : Int) w23 lN lR HLV.out (by omega) (by omega) HOR.out.rs).mono ?_
  rintro e w24 ⟨rfl, hb⟩
  replace hb : Below w23.heap.size w23 w24 := ⟨hb.os, hb.tape, hb.output, hb.size, hb.block⟩
  have HB24 := hide (HB23.out.trans (hb.mono HB23.out.size))
  have hs24 : w23.heap.size ≤ w24.heap.size := hb.size
  have HOW := hide (HOW.out.below hb)
  have HOR := hide (HOR.out.below hb)
  have HOQ := hide (HOQ.out.below hb)
  have HXb := hide (blk_below hb (by omega) HXb.out)
  clear hb
  rw [HMM.out]
  go_wp2_with fail
  go_ret
  exact ⟨rfl, HB24.out⟩
end Go.Proofs.Ytjndhcdanpnniaa
