/- The law FnInterest, walked. -/
import Derived.Test.YtbcajjpgpjadaaaPq
import Derived.Test.YtbcajjpgpjadaaaDa
import Derived.Test.YtbcajjpgpjadaaaBb
namespace Go.Proofs.Ytbcajjpgpjadaaa
open Go.RowKit Go.Dues
set_option maxRecDepth 100000 in
set_option maxHeartbeats 16000000 in
theorem lawFnInterest_any (A : Option Addr) (n c : Nat) (x : Nat → Int) (B : Option Addr) (m d : Nat) (y : Nat → Int) (w : World) (hn : n ≤ maxLen) (hs : SL w A n (fun j => .int .u8 (x j))) (hx : ∀ j, j < n → 0 ≤ x j ∧ x j ≤ 255) (hm : m ≤ maxLen) (ht : SL w B m (fun j => .int .u8 (y j))) (hy : ∀ j, j < m → 0 ≤ y j ∧ y j ≤ 255) :
    Calls Try.prog 6 #[.slice A n c, .slice B m d] w fun e w' => e = .returned (.bool true) ∧ Below w.heap.size w w' := by
  by_cases hbig : 1048576 < n ∨ 1048576 < m
  · go_enter Try.func6, Try.ntmps6
    go_wp2_with (go_at_call 24; refine (b10Long_yes A n c B m d w hbig hn hm).mono ?_; rintro e w' ⟨rfl, rfl⟩)
    go_ret
    exact ⟨rfl, Below.refl _ _⟩
  have hn' : n ≤ 1048576 := by omega
  have hm' : m ≤ 1048576 := by omega
  clear hbig hn hm hs hx
  have HT := hide ht
  have HY := hide hy
  clear ht hy
  obtain ⟨v0, hv0⟩ : ∃ q, b10V y m 0 256 = q := ⟨_, rfl⟩
  have v00 : 0 ≤ v0 := by rw [← hv0]; exact (b10V_bd (by omega)).1
  have v01 : v0 < 256 := by rw [← hv0]; exact (b10V_bd (by omega)).2
  have Hv0 : Hid (∀ w1, Below w.heap.size w w1 → Calls Try.prog 25 #[.slice B m d, .int .i64 0, .int .i64 256] w1 fun e w2 => e = .returned (.int .i64 v0) ∧ Below w1.heap.size w1 w2) := fun w1 hb => by rw [← hv0]; exact b10At_any B m d y 0 256 w1 hm' (HT.out.below hb) HY.out (by omega) (by omega) (by omega)
  clear hv0
  obtain ⟨v1, hv1⟩ : ∃ q, b10V y m 1 100 = q := ⟨_, rfl⟩
  have v10 : 0 ≤ v1 := by rw [← hv1]; exact (b10V_bd (by omega)).1
  have v11 : v1 < 100 := by rw [← hv1]; exact (b10V_bd (by omega)).2
  have Hv1 : Hid (∀ w1, Below w.heap.size w w1 → Calls Try.prog 25 #[.slice B m d, .int .i64 1, .int .i64 100] w1 fun e w2 => e = .returned (.int .i64 v1) ∧ Below w1.heap.size w1 w2) := fun w1 hb => by rw [← hv1]; exact b10At_any B m d y 1 100 w1 hm' (HT.out.below hb) HY.out (by omega) (by omega) (by omega)
  clear hv1
  obtain ⟨k, hk⟩ : ∃ q, b10V y m 2 3 = q := ⟨_, rfl⟩
  have k0 : 0 ≤ k := by rw [← hk]; exact (b10V_bd (by omega)).1
  have k1 : k < 3 := by rw [← hk]; exact (b10V_bd (by omega)).2
  have Hk : Hid (∀ w1, Below w.heap.size w w1 → Calls Try.prog 25 #[.slice B m d, .int .i64 2, .int .i64 3] w1 fun e w2 => e = .returned (.int .i64 k) ∧ Below w1.heap.size w1 w2) := fun w1 hb => by rw [← hk]; exact b10At_any B m d y 2 3 w1 hm' (HT.out.below hb) HY.out (by omega) (by omega) (by omega)
  clear hk
  obtain ⟨a, ha⟩ : ∃ q, b10V y m 3 256 = q := ⟨_, rfl⟩
  have a0 : 0 ≤ a := by rw [← ha]; exact (b10V_bd (by omega)).1
  have a1 : a < 256 := by rw [← ha]; exact (b10V_bd (by omega)).2
  have Ha : Hid (∀ w1, Below w.heap.size w w1 → Calls Try.prog 25 #[.slice B m d, .int .i64 3, .int .i64 256] w1 fun e w2 => e = .returned (.int .i64 a) ∧ Below w1.heap.size w1 w2) := fun w1 hb => by rw [← ha]; exact b10At_any B m d y 3 256 w1 hm' (HT.out.below hb) HY.out (by omega) (by omega) (by omega)
  clear ha
  obtain ⟨v4, hv4⟩ : ∃ q, b10V y m 4 256 = q := ⟨_, rfl⟩
  have v40 : 0 ≤ v4 := by rw [← hv4]; exact (b10V_bd (by omega)).1
  have v41 : v4 < 256 := by rw [← hv4]; exact (b10V_bd (by omega)).2
  have Hv4 : Hid (∀ w1, Below w.heap.size w w1 → Calls Try.prog 25 #[.slice B m d, .int .i64 4, .int .i64 256] w1 fun e w2 => e = .returned (.int .i64 v4) ∧ Below w1.heap.size w1 w2) := fun w1 hb => by rw [← hv4]; exact b10At_any B m d y 4 256 w1 hm' (HT.out.below hb) HY.out (by omega) (by omega) (by omega)
  clear hv4
  obtain ⟨v5, hv5⟩ : ∃ q, b10V y m 5 24 = q := ⟨_, rfl⟩
  have v50 : 0 ≤ v5 := by rw [← hv5]; exact (b10V_bd (by omega)).1
  have v51 : v5 < 24 := by rw [← hv5]; exact (b10V_bd (by omega)).2
  have Hv5 : Hid (∀ w1, Below w.heap.size w w1 → Calls Try.prog 25 #[.slice B m d, .int .i64 5, .int .i64 24] w1 fun e w2 => e = .returned (.int .i64 v5) ∧ Below w1.heap.size w1 w2) := fun w1 hb => by rw [← hv5]; exact b10At_any B m d y 5 24 w1 hm' (HT.out.below hb) HY.out (by omega) (by omega) (by omega)
  clear hv5
  obtain ⟨c', hc'⟩ : ∃ q : Int, 1000 * v0 = q := ⟨_, rfl⟩
  obtain ⟨r, hr⟩ : ∃ q : Int, 10 * v1 = q := ⟨_, rfl⟩
  obtain ⟨b, hb'⟩ : ∃ q : Int, a + v4 = q := ⟨_, rfl⟩
  obtain ⟨K, hK⟩ : ∃ q : Nat, 1 + v5 = (q : Int) := ⟨(1 + v5).toNat, by omega⟩
  have c0 : 0 ≤ c' := by omega
  have c1 : c' ≤ 255000 := by omega
  have r0 : 0 ≤ r := by omega
  have r1 : r ≤ 990 := by omega
  have b0 : a ≤ b := by omega
  have b1 : b ≤ 510 := by omega
  have K0 : 1 ≤ K := by omega
  have K1 : K ≤ 24 := by omega
  have HC := hide hc'
  have HR := hide hr
  have HBB := hide hb'
  have HK := hide hK
  clear hc' hr hb' hK
  have tp : timeP k a b := ⟨⟨by omega, by omega⟩, ⟨by omega, by omega⟩, ⟨by omega, by omega⟩, by omega⟩
  have ip : intP c' r k a b := ⟨⟨by omega, by omega⟩, ⟨by omega, by omega⟩, tp⟩
  have ip2 : intP c' (r + 100) k a b := ⟨⟨by omega, by omega⟩, ⟨by omega, by omega⟩, tp⟩
  have pp : penP c' r 1000 a b := ⟨⟨by omega, by omega⟩, ⟨by omega, by omega⟩, ⟨by omega, by omega⟩, ⟨by omega, by omega⟩, ⟨by omega, by omega⟩, by omega⟩
  have J1 := fun w => implInterestOf_any c' r k a b w
  have J2 := fun w => specInterestOf_any c' r k a b w
  have J6 := fun w => implInterestOf_any c' (r + 100) k a b w
  have J7 := fun w => implPenaltyOf_any c' r 1000 a b w
  have J8 := fun w => specPenaltyOf_any c' r 1000 a b w
  rw [ifV_yes ip, tru_yes ip] at J1 J2
  rw [ifV_yes ip2, tru_yes ip2] at J6
  rw [ifV_yes pp, tru_yes pp] at J7 J8
  have up := int_up (r := r) ip2 (by omega)
  have pf := pen_few pp
  have one := by_one ip (by omega) b0 (x := lit1 0) (y := lit1 r) rfl rfl
  have two : irP c' (lit2 0 (a + 20)) 2 (lit2 r (r + 100)) 2 k a b := by_two ⟨c0, by omega⟩ tp ⟨by omega, by omega⟩ (by omega)
  have J3 := fun w B1 B2 h1 h2 => implByRates_any c' B1 1 1 (lit1 0) B2 1 1 (lit1 r) k a b w (by unfold maxLen; omega) h1 (by unfold maxLen; omega) h2
  have J4 := fun w B1 B2 h1 h2 => implByRates_any c' B1 2 2 (lit2 0 (a + 20)) B2 2 2 (lit2 r (r + 100)) k a b w (by unfold maxLen; omega) h1 (by unfold maxLen; omega) h2
  have J5 := fun w B1 B2 h1 h2 => specByRates_any c' B1 2 2 (lit2 0 (a + 20)) B2 2 2 (lit2 r (r + 100)) k a b w (by unfold maxLen; omega) h1 (by unfold maxLen; omega) h2
  rw [ifV_yes one.1, tru_yes one.1, one.2] at J3
  rw [ifV_yes two, tru_yes two] at J4 J5
  generalize intV c' r k a b = X at *
  generalize intV c' (r + 100) k a b = X2 at *
  generalize penV c' r 1000 a b = PE at *
  generalize irS c' (lit2 0 (a + 20)) 2 (lit2 r (r + 100)) k a b 2 = CH at *
  have u1 : decide (X2 < X) = false := by simp; omega
  have u2 : decide (PE < 0) = false := by simp; omega
  have u3 : decide (c' / 10 + 1 < PE) = false := by simp; omega
  have u4 := pf.1
  have u5 := pf.2
  clear pf up one two
  have en := en_most (c := c') (r := r) (n := (K : Int)) ⟨c0, c1⟩ ⟨r0, r1⟩ ⟨by omega, by omega⟩
  have ls := least_is (c := c') (r := r) (n := (K : Int)) en
  have ep := (least_en ls).2 en
  have J9 := fun w => implLoanPayment_any c' r (K : Int) w
  rw [ifV_yes (show payP c' r (K : Int) from en), tru_yes (show payP c' r (K : Int) from en)] at J9
  generalize leastV c' r (K : Int) = p at *
  have p0 := ls.1
  have p1 := ls.2.1
  have cn := cnt_is ep
  have J10 := fun w => implLoanTable_any c' r p (K : Int) w
  have J11 := fun w => implLoanTable_any c' r (p - 1) (K : Int) w
  have J12 := fun w => implLoanCount_any c' r p w
  rw [ifV_yes cn.1, ifV_yes cn.1, tru_yes cn.1] at J12
  have z1 := cn.2.1
  have z2 := cn.2.2.1
  have z3 := cn.2.2.2.1
  have z4 := cn.2.2.2.2
  generalize cntN c' r p = cN at *
  generalize cntL c' r p = cL at *
  clear cn en
  have EZ := hide (show restN c' r p K = 0 by have := ep.2; rwa [Int.toNat_natCast] at this)
  have RB := hide (fun j (hj : j ≤ K) => rest_bd ep j (by rw [Int.toNat_natCast]; exact hj))
  have HT10 := hide (fun w => table_yes (K := K) ep.1 w)
  have LS := hide ls.2.2.2
  have EP := hide ep
  have TP := hide tp
  clear ls ep tp ip ip2 pp
  clear J10 J11
  have HJ1 := hide J1
  clear J1
  have HJ2 := hide J2
  clear J2
  have HJ3 := hide J3
  clear J3
  have HJ4 := hide J4
  clear J4
  have HJ5 := hide J5
  clear J5
  have HJ6 := hide J6
  clear J6
  have HJ7 := hide J7
  clear J7
  have HJ8 := hide J8
  clear J8
  have HJ9 := hide J9
  clear J9
  have HJ12 := hide J12
  clear J12
  have HB0 := hide (Below.refl w.heap.size w)
  go_enter Try.func6, Try.ntmps6
  go_wp2_with fail
  refine (b10Long_no A n c B m d w hn' hm').mono ?_
  rintro e w0 ⟨rfl, rfl⟩
  go_wp2_with fail
  refine (Hv0.out _ (by first | exact HB0.out | exact bel_dN HB0.out _)).mono ?_
  rintro e w1 ⟨rfl, hb⟩
  replace hb : Below w.heap.size w w1 := ⟨hb.os, hb.tape, hb.output, hb.size, hb.block⟩
  have HB1 := hide (HB0.out.trans (hb.mono HB0.out.size))
  clear hb
  go_wp2_with fail
  rw [HC.out]
  refine (Hv1.out _ (by first | exact HB1.out | exact bel_dN HB1.out _)).mono ?_
  rintro e w2 ⟨rfl, hb⟩
  replace hb : Below w1.heap.size w1 w2 := ⟨hb.os, hb.tape, hb.output, hb.size, hb.block⟩
  have HB2 := hide (HB1.out.trans (hb.mono HB1.out.size))
  clear hb
  go_wp2_with fail
  rw [HR.out]
  refine (Hk.out _ (by first | exact HB2.out | exact bel_dN HB2.out _)).mono ?_
  rintro e w3 ⟨rfl, hb⟩
  replace hb : Below w2.heap.size w2 w3 := ⟨hb.os, hb.tape, hb.output, hb.size, hb.block⟩
  have HB3 := hide (HB2.out.trans (hb.mono HB2.out.size))
  clear hb
  go_wp2_with fail
  refine (Ha.out _ (by first | exact HB3.out | exact bel_dN HB3.out _)).mono ?_
  rintro e w4 ⟨rfl, hb⟩
  replace hb : Below w3.heap.size w3 w4 := ⟨hb.os, hb.tape, hb.output, hb.size, hb.block⟩
  have HB4 := hide (HB3.out.trans (hb.mono HB3.out.size))
  clear hb
  go_wp2_with fail
  refine (Hv4.out _ (by first | exact HB4.out | exact bel_dN HB4.out _)).mono ?_
  rintro e w5 ⟨rfl, hb⟩
  replace hb : Below w4.heap.size w4 w5 := ⟨hb.os, hb.tape, hb.output, hb.size, hb.block⟩
  have HB5 := hide (HB4.out.trans (hb.mono HB4.out.size))
  clear hb
  go_wp2_with fail
  rw [HBB.out]
  refine (HJ1.out _).mono ?_
  rintro e w6 ⟨rfl, hb⟩
  replace hb : Below w5.heap.size w5 w6 := ⟨hb.os, hb.tape, hb.output, hb.size, hb.block⟩
  have HB6 := hide (HB5.out.trans (hb.mono HB5.out.size))
  clear hb
  go_wp2_with fail
  refine (HJ2.out _).mono ?_
  rintro e w7 ⟨rfl, hb⟩
  replace hb : Below w6.heap.size w6 w7 := ⟨hb.os, hb.tape, hb.output, hb.size, hb.block⟩
  have HB7 := hide (HB6.out.trans (hb.mono HB6.out.size))
  clear hb
  go_wp2_with fail
  obtain ⟨w8, hw⟩ : ∃ u, u = ((w7.alloc (.cells #[.int .i64 0] 2)).alloc (.cells #[.int .i64 r] 2)) := ⟨_, rfl⟩
  have hb : Below w7.heap.size w7 w8 := by rw [hw]; exact ((Below.refl _ _).alloc (Nat.le_refl _) _).alloc (by simp) _
  have L1 : Hid (w8.heap[w7.heap.size]? = some (.cells #[.int .i64 0] 2 (0, 0))) := by rw [hw]; exact (blocks2 w7 _ _).1
  have L2 : Hid (w8.heap[w7.heap.size + 1]? = some (.cells #[.int .i64 r] 2 (0, 0))) := by rw [hw]; exact (blocks2 w7 _ _).2
  rw [← hw]
  clear hw
  replace hb : Below w7.heap.size w7 w8 := ⟨hb.os, hb.tape, hb.output, hb.size, hb.block⟩
  have HB8 := hide (HB7.out.trans (hb.mono HB7.out.size))
  clear hb
  refine (HJ3.out _ _ _ (sl_lit1 L1.out) (sl_lit1 L2.out)).mono ?_
  rintro e w9 ⟨rfl, hb⟩
  clear L1 L2
  replace hb : Below w8.heap.size w8 w9 := ⟨hb.os, hb.tape, hb.output, hb.size, hb.block⟩
  have HB9 := hide (HB8.out.trans (hb.mono HB8.out.size))
  clear hb
  go_wp2_with fail
  obtain ⟨w10, hw⟩ : ∃ u, u = ((w9.alloc (.cells #[.int .i64 0, .int .i64 (a + 20)] 2)).alloc (.cells #[.int .i64 r, .int .i64 (r + 100)] 2)) := ⟨_, rfl⟩
  have hb : Below w9.heap.size w9 w10 := by rw [hw]; exact ((Below.refl _ _).alloc (Nat.le_refl _) _).alloc (by simp) _
  have L1 : Hid (w10.heap[w9.heap.size]? = some (.cells #[.int .i64 0, .int .i64 (a + 20)] 2 (0, 0))) := by rw [hw]; exact (blocks2 w9 _ _).1
  have L2 : Hid (w10.heap[w9.heap.size + 1]? = some (.cells #[.int .i64 r, .int .i64 (r + 100)] 2 (0, 0))) := by rw [hw]; exact (blocks2 w9 _ _).2
  rw [← hw]
  clear hw
  replace hb : Below w9.heap.size w9 w10 := ⟨hb.os, hb.tape, hb.output, hb.size, hb.block⟩
  have HB10 := hide (HB9.out.trans (hb.mono HB9.out.size))
  clear hb
  refine (HJ4.out _ _ _ (sl_lit2 L1.out) (sl_lit2 L2.out)).mono ?_
  rintro e w11 ⟨rfl, hb⟩
  clear L1 L2
  replace hb : Below w10.heap.size w10 w11 := ⟨hb.os, hb.tape, hb.output, hb.size, hb.block⟩
  have HB11 := hide (HB10.out.trans (hb.mono HB10.out.size))
  clear hb
  go_wp2_with fail
  obtain ⟨w12, hw⟩ : ∃ u, u = ((w11.alloc (.cells #[.int .i64 0, .int .i64 (a + 20)] 2)).alloc (.cells #[.int .i64 r, .int .i64 (r + 100)] 2)) := ⟨_, rfl⟩
  have hb : Below w11.heap.size w11 w12 := by rw [hw]; exact ((Below.refl _ _).alloc (Nat.le_refl _) _).alloc (by simp) _
  have L1 : Hid (w12.heap[w11.heap.size]? = some (.cells #[.int .i64 0, .int .i64 (a + 20)] 2 (0, 0))) := by rw [hw]; exact (blocks2 w11 _ _).1
  have L2 : Hid (w12.heap[w11.heap.size + 1]? = some (.cells #[.int .i64 r, .int .i64 (r + 100)] 2 (0, 0))) := by rw [hw]; exact (blocks2 w11 _ _).2
  rw [← hw]
  clear hw
  replace hb : Below w11.heap.size w11 w12 := ⟨hb.os, hb.tape, hb.output, hb.size, hb.block⟩
  have HB12 := hide (HB11.out.trans (hb.mono HB11.out.size))
  clear hb
  refine (HJ5.out _ _ _ (sl_lit2 L1.out) (sl_lit2 L2.out)).mono ?_
  rintro e w13 ⟨rfl, hb⟩
  clear L1 L2
  replace hb : Below w12.heap.size w12 w13 := ⟨hb.os, hb.tape, hb.output, hb.size, hb.block⟩
  have HB13 := hide (HB12.out.trans (hb.mono HB12.out.size))
  clear hb
  go_wp2_with fail
  refine (HJ6.out _).mono ?_
  rintro e w14 ⟨rfl, hb⟩
  replace hb : Below w13.heap.size w13 w14 := ⟨hb.os, hb.tape, hb.output, hb.size, hb.block⟩
  have HB14 := hide (HB13.out.trans (hb.mono HB13.out.size))
  clear hb
  go_wp2_with fail
  refine (HJ7.out _).mono ?_
  rintro e w15 ⟨rfl, hb⟩
  replace hb : Below w14.heap.size w14 w15 := ⟨hb.os, hb.tape, hb.output, hb.size, hb.block⟩
  have HB15 := hide (HB14.out.trans (hb.mono HB14.out.size))
  clear hb
  go_wp2_with fail
  refine (HJ8.out _).mono ?_
  rintro e w16 ⟨rfl, hb⟩
  replace hb : Below w15.heap.size w15 w16 := ⟨hb.os, hb.tape, hb.output, hb.size, hb.block⟩
  have HB16 := hide (HB15.out.trans (hb.mono HB15.out.size))
  clear hb
  go_wp2_with fail
  refine (Hv5.out _ (by first | exact HB16.out | exact bel_dN HB16.out _)).mono ?_
  rintro e w17 ⟨rfl, hb⟩
  replace hb : Below w16.heap.size w16 w17 := ⟨hb.os, hb.tape, hb.output, hb.size, hb.block⟩
  have HB17 := hide (HB16.out.trans (hb.mono HB16.out.size))
  clear hb
  go_wp2_with fail
  rw [HK.out]
  refine (HJ9.out _).mono ?_
  rintro e w18 ⟨rfl, hb⟩
  replace hb : Below w17.heap.size w17 w18 := ⟨hb.os, hb.tape, hb.output, hb.size, hb.block⟩
  have HB18 := hide (HB17.out.trans (hb.mono HB17.out.size))
  clear hb
  go_wp2_with fail
  refine (HT10.out _).mono ?_
  rintro e w19 ⟨G, dG, G', dG', rfl, ho1, ho2, hb⟩
  replace hb : Below w18.heap.size w18 w19 := ⟨hb.os, hb.tape, hb.output, hb.size, hb.block⟩
  have HB19 := hide (HB18.out.trans (hb.mono HB18.out.size))
  clear hb
  have HG := hide ho1
  have HG' := hide ho2
  clear ho1 ho2
  have hlast : Hid (∃ b off, G' = some ⟨b, off, none⟩ ∧ b < w19.heap.size ∧ w19.cell? ⟨b, off + (K - 1), none⟩ = some (.int .i64 0)) := by
    obtain ⟨b, off, h1, h2, h3⟩ := HG'.out.at_ (by omega)
    have h4 := h3 (K - 1) (by omega)
    rw [show K - 1 + 1 = K by omega, EZ.out] at h4
    exact ⟨b, off, h1, h2, h4⟩
  obtain ⟨g1, o1, hA1, hg1, hcl⟩ := hlast.out
  subst hA1
  clear hlast
  have i1 : (0 : Int) ≤ (K : Int) - 1 := by omega
  have i2 : (K : Int) - 1 < (K : Int) := by omega
  obtain ⟨g2, o2, hA2, hg2, hc2⟩ := HG.out.at_ (show K ≠ 0 by omega)
  clear hc2
  subst hA2
  go_wp2
  clear hcl
  go_loop [4, 32, 33, 34, 255] (fun _ rs _ _ i => ∃ j : Nat, j ≤ K ∧ i = .int .i64 j ∧ rs = .int .i64 (restN c' r p j)) (fun _ _ _ _ i => K - (intOf i).toNat)
  case atStart => exact ⟨0, Nat.zero_le _, rfl, rfl⟩
  case round =>
    obtain ⟨j, hj, rfl, rfl⟩ := hrel
    by_cases hlt : j < K
    · have q1 := sl_cell HG.out j hlt
      have q2 := sl_cell HG'.out j hlt
      have q3 := RB.out j hj
      have HE := hide (show restN c' r p (j + 1) = stepL r p (restN c' r p j) from rfl)
      rw [intr_lit] at q1
      have q4 := prod_bd q3.1 q3.2 r0 r1
      have HZ : Hid (restN c' r p (j + 1) = if 0 < restN c' r p j + (2 * restN c' r p j * r + 10000) / 20000 - p then restN c' r p j + (2 * restN c' r p j * r + 10000) / 20000 - p else 0) := by
        rw [HE.out]; exact step_max _ _ _
      have HQ2 := hide q2
      clear q2
      by_cases hmx : 0 < restN c' r p j + (2 * restN c' r p j * r + 10000) / 20000 - p
      · have q5 := HQ2.out
        rw [HZ.out, if_pos hmx] at q5
        have HV := hide (show restN c' r p j + (2 * restN c' r p j * r + 10000) / 20000 - p = restN c' r p (j + 1) from by rw [HZ.out, if_pos hmx])
        generalize restN c' r p j = R at *
        go_wp2
        go_round
        case rel => exact ⟨j + 1, by omega, by go_num, by rw [HV.out]⟩
        case measure => simp [intOf]; omega
      · have q5 := HQ2.out
        rw [HZ.out, if_neg hmx] at q5
        have HV := hide (show (0 : Int) = restN c' r p (j + 1) from by rw [HZ.out, if_neg hmx])
        generalize restN c' r p j = R at *
        go_wp2
        go_round
        case rel => exact ⟨j + 1, by omega, by go_num, by rw [← HV.out]⟩
        case measure => simp [intOf]; omega
    · have hjK : j = K := by omega
      subst hjK
      clear HG HG' hlt hj hg1 hg2 i1 i2
      by_cases hp : 0 < p
      · by_cases tq : tabP c' r (p - 1) (j : Int)
        · have zz : (restN c' r (p - 1) j == 0) = false := by
            have := LS.out
            rcases this with h | h
            · omega
            · have : restN c' r (p - 1) j ≠ 0 := fun e => h ⟨tq, by rw [Int.toNat_natCast]; exact e⟩
              simpa using this
          have HTQ := hide (fun w => table_yes tq w)
          clear tq
          go_wp2_with fail
          refine (HTQ.out _).mono ?_
          rintro e w20 ⟨G3, d3, G4, d4, rfl, ho3, ho4, hb⟩
          replace hb : Below w19.heap.size w19 w20 := ⟨hb.os, hb.tape, hb.output, hb.size, hb.block⟩
          have HB20 := hide (HB19.out.trans (hb.mono HB19.out.size))
          clear hb
          obtain ⟨g5, o5, hA5, hg5, hc5⟩ := ho4.at_ (show j ≠ 0 by omega)
          subst hA5
          have c5 := hc5 (j - 1) (by omega)
          rw [show j - 1 + 1 = j by omega] at c5
          have i1 : (0 : Int) ≤ (j : Int) - 1 := by omega
          have i2 : (j : Int) - 1 < (j : Int) := by omega
          clear hc5 ho3 ho4
          go_wp2_with fail
          refine (HJ12.out _).mono ?_
          rintro e w21 ⟨rfl, hb⟩
          replace hb : Below w20.heap.size w20 w21 := ⟨hb.os, hb.tape, hb.output, hb.size, hb.block⟩
          have HB21 := hide (HB20.out.trans (hb.mono HB20.out.size))
          clear hb
          go_wp2_with fail
          go_ret
          exact ⟨rfl, HB21.out⟩
        · have HTQ := hide (fun w => table_no tq w)
          clear tq
          go_wp2_with fail
          refine (HTQ.out _).mono ?_
          rintro e w20 ⟨G3, d3, G4, d4, rfl, hb⟩
          replace hb : Below w19.heap.size w19 w20 := ⟨hb.os, hb.tape, hb.output, hb.size, hb.block⟩
          have HB20 := hide (HB19.out.trans (hb.mono HB19.out.size))
          clear hb
          go_wp2_with fail
          refine (HJ12.out _).mono ?_
          rintro e w21 ⟨rfl, hb⟩
          replace hb : Below w20.heap.size w20 w21 := ⟨hb.os, hb.tape, hb.output, hb.size, hb.block⟩
          have HB21 := hide (HB20.out.trans (hb.mono HB20.out.size))
          clear hb
          go_wp2_with fail
          go_ret
          exact ⟨rfl, HB21.out⟩
      · have hp' : p = 0 := by omega
        subst hp'
        go_wp2_with fail
        refine (HJ12.out _).mono ?_
        rintro e w20 ⟨rfl, hb⟩
        replace hb : Below w19.heap.size w19 w20 := ⟨hb.os, hb.tape, hb.output, hb.size, hb.block⟩
        have HB20 := hide (HB19.out.trans (hb.mono HB19.out.size))
        clear hb
        go_wp2_with fail
        go_ret
        exact ⟨rfl, HB20.out⟩
end Go.Proofs.Ytbcajjpgpjadaaa
