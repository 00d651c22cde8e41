/- Penalties, by both. -/
import Derived.Test.YtbcajjpgpjadaaaBt
import Derived.Test.YtbcajjpgpjadaaaTw
namespace Go.Proofs.Ytbcajjpgpjadaaa
open Go.RowKit Go.Dues
set_option maxHeartbeats 2000000 in
theorem implBegun_any (a b : Int) (w : World) (ha : dayP a) (hb : dayP b) (hab : a ≤ b) :
    Calls Try.prog 114 #[.agg #[.int .i64 (dY a), .int .i64 (dM a), .int .i64 (dD a)], .agg #[.int .i64 (dY b), .int .i64 (dM b), .int .i64 (dD b)]] w fun e w' => e = .returned (.int .i64 (begV a b)) ∧ Below w.heap.size w w' := by
  obtain ⟨mb0, mb1⟩ := monB_bd ha hb hab
  have HDA := hide ha
  have HDB := hide hb
  clear ha hb
  obtain ⟨W, hW⟩ : ∃ u, u = (w.alloc (.cells #[.int .i64 (dY a), .int .i64 (dM a), .int .i64 (dD a)] 105)).alloc (.cells #[.int .i64 (dY b), .int .i64 (dM b), .int .i64 (dD b)] 105) := ⟨_, rfl⟩
  have HBB : Hid (Below w.heap.size w W) := by rw [hW]; exact ((Below.refl w.heap.size w).alloc (Nat.le_refl _) _).alloc (by simp) _
  have HPA : Hid (W.heap[w.heap.size]? = some (.cells #[.int .i64 (dY a), .int .i64 (dM a), .int .i64 (dD a)] 105)) := by rw [hW]; exact (blocks2 w _ _).1
  have HPB : Hid (W.heap[w.heap.size + 1]? = some (.cells #[.int .i64 (dY b), .int .i64 (dM b), .int .i64 (dD b)] 105)) := by rw [hW]; exact (blocks2 w _ _).2
  have HWW := hide hW
  clear hW
  have HZ := hide (show w.heap.size < W.heap.size ∧ w.heap.size + 1 < W.heap.size by rw [HWW.out]; simp; omega)
  have a0 := Joins.cell_of_block HPA.out 0
  have a1 := Joins.cell_of_block HPA.out 1
  have a2 := Joins.cell_of_block HPA.out 2
  simp at a0 a1 a2
  have b0 := Joins.cell_of_block HPB.out 0
  have b1 := Joins.cell_of_block HPB.out 1
  have b2 := Joins.cell_of_block HPB.out 2
  simp at b0 b1 b2
  rw [HWW.out] at a0 a1 a2 b0 b1 b2
  by_cases hd : dD a < dD b
  · have HE := hide (show monB a b + 1 = begV a b by unfold begV; rw [if_pos hd])
    go_enter Try.func114, Try.ntmps114
    go_wp2_with fail
    rw [← HWW.out]
    clear HWW a0 a1 a2 b0 b1 b2
    refine (implMonB_any a b _ HDA.out HDB.out).mono ?_
    rintro e w1 ⟨rfl, hb⟩
    have HB1 := hide (HBB.out.trans (hb.mono HBB.out.size))
    have HPA1 := hide (blk_below hb HZ.out.1 HPA.out)
    have HPB1 := hide (blk_below hb HZ.out.2 HPB.out)
    clear hb
    have a0 := Joins.cell_of_block HPA1.out 0
    have a1 := Joins.cell_of_block HPA1.out 1
    have a2 := Joins.cell_of_block HPA1.out 2
    simp at a0 a1 a2
    have b0 := Joins.cell_of_block HPB1.out 0
    have b1 := Joins.cell_of_block HPB1.out 1
    have b2 := Joins.cell_of_block HPB1.out 2
    simp at b0 b1 b2
    go_wp2
    go_ret
    exact ⟨reti HE.out, HB1.out⟩
  · have HE := hide (show monB a b = begV a b by unfold begV; rw [if_neg hd]; omega)
    go_enter Try.func114, Try.ntmps114
    go_wp2_with fail
    rw [← HWW.out]
    clear HWW a0 a1 a2 b0 b1 b2
    refine (implMonB_any a b _ HDA.out HDB.out).mono ?_
    rintro e w1 ⟨rfl, hb⟩
    have HB1 := hide (HBB.out.trans (hb.mono HBB.out.size))
    have HPA1 := hide (blk_below hb HZ.out.1 HPA.out)
    have HPB1 := hide (blk_below hb HZ.out.2 HPB.out)
    clear hb
    have a0 := Joins.cell_of_block HPA1.out 0
    have a1 := Joins.cell_of_block HPA1.out 1
    have a2 := Joins.cell_of_block HPA1.out 2
    simp at a0 a1 a2
    have b0 := Joins.cell_of_block HPB1.out 0
    have b1 := Joins.cell_of_block HPB1.out 1
    have b2 := Joins.cell_of_block HPB1.out 2
    simp at b0 b1 b2
    go_wp2
    go_ret
    exact ⟨reti HE.out, HB1.out⟩
def penP (c r m a b : Int) : Prop := (0 ≤ c ∧ c ≤ 1000000000) ∧ (0 ≤ r ∧ r ≤ 100000) ∧ (0 ≤ m ∧ m ≤ 100000) ∧ dayP a ∧ dayP b ∧ a ≤ b
def penV (c r m a b : Int) : Int := min (rnd (c * (r * begV a b)) 10000 1) (rnd (c * m) 10000 1)
theorem pen_bd {c r m a b : Int} (h : penP c r m a b) : (0 ≤ r * begV a b ∧ r * begV a b ≤ 120000000) ∧ (0 ≤ c * (r * begV a b) ∧ c * (r * begV a b) ≤ 120000000000000000) ∧ (0 ≤ c * m ∧ c * m ≤ 100000000000000) := by
  have h1 := begV_bd h.2.2.2.1 h.2.2.2.2.1 h.2.2.2.2.2
  have h2 := mul_bd h.2.1.1 h.2.1.2 h1.1 h1.2
  have h3 := mul_bd (N := 120000000) h.1.1 h.1.2 h2.1 (by omega)
  have h4 := mul_bd h.1.1 h.1.2 h.2.2.1.1 h.2.2.1.2
  exact ⟨⟨h2.1, by omega⟩, ⟨h3.1, by omega⟩, ⟨h4.1, by omega⟩⟩
theorem penV_bd {c r m a b : Int} (h : penP c r m a b) : 0 ≤ penV c r m a b ∧ penV c r m a b ≤ 10000000001 := by
  have h1 := pen_bd h
  have h2 := rnd1_lit (c * (r * begV a b))
  have h3 := rnd1_lit (c * m)
  unfold penV
  omega
set_option maxHeartbeats 4000000 in
theorem specPenaltyOf_any (c r m a b : Int) (w : World) :
    Calls Try.prog 35 #[.int .i64 c, .int .i64 r, .int .i64 m, .int .i64 a, .int .i64 b] w fun e w' => e = .returned (.tuple #[.int .i64 (ifV (penP c r m a b) (penV c r m a b)), .bool (tru (penP c r m a b))]) ∧ Below w.heap.size w w' := by
  cases g0 : inB c 0 1000000000
  · have HH := hide (show ¬ penP c r m a b from fun h => by rw [inB_yes (h.1)] at g0; cases g0)
    go_enter Try.func35, Try.ntmps35
    go_wp2_with (first | (go_at_call 106; refine (specIn_any _ _ _ _).mono ?_; rintro e w' ⟨rfl, rfl⟩) | go_in)
    go_ret2
    exact ⟨ret_no HH.out, Below.refl _ _⟩
  cases g1 : inB r 0 100000
  · have HH := hide (show ¬ penP c r m a b from fun h => by rw [inB_yes (h.2.1)] at g1; cases g1)
    go_enter Try.func35, Try.ntmps35
    go_wp2_with (first | (go_at_call 106; refine (specIn_any _ _ _ _).mono ?_; rintro e w' ⟨rfl, rfl⟩) | go_in)
    go_ret2
    exact ⟨ret_no HH.out, Below.refl _ _⟩
  cases g2 : inB m 0 100000
  · have HH := hide (show ¬ penP c r m a b from fun h => by rw [inB_yes (h.2.2.1)] at g2; cases g2)
    go_enter Try.func35, Try.ntmps35
    go_wp2_with (first | (go_at_call 106; refine (specIn_any _ _ _ _).mono ?_; rintro e w' ⟨rfl, rfl⟩) | go_in)
    go_ret2
    exact ⟨ret_no HH.out, Below.refl _ _⟩
  cases g3 : timeB 0 a b
  · have HH := hide (show ¬ penP c r m a b from fun h => by rw [timeB_iff.2 ⟨by omega, h.2.2.2⟩] at g3; cases g3)
    go_enter Try.func35, Try.ntmps35
    go_wp2_with (first | (go_at_call 106; refine (specIn_any _ _ _ _).mono ?_; rintro e w' ⟨rfl, rfl⟩) | (go_at_call 101; refine (specTime_any _ _ _ _ ).mono ?_; rintro e w' ⟨rfl, rfl⟩) | go_in)
    go_ret2
    exact ⟨ret_no HH.out, Below.refl _ _⟩
  have HT := hide (timeB_iff.1 g3).2
  have HH := hide (show penP c r m a b from ⟨inB_iff.1 g0, inB_iff.1 g1, inB_iff.1 g2, HT.out⟩)
  obtain ⟨⟨p0, p1⟩, ⟨q0, q1⟩, ⟨s0, s1⟩⟩ := pen_bd HH.out
  obtain ⟨c0, c1⟩ := inB_iff.1 g0
  obtain ⟨m0, m1⟩ := inB_iff.1 g2
  have HR1 := hide (specRounded_any c (r * begV a b) 10000 w c0 (by omega) p0 (by omega) (by omega) (by omega) (Int.le_trans (Int.ediv_le_self _ q0) (by omega)))
  have HR2 := hide (specRounded_any c m 10000 w c0 (by omega) m0 (by omega) (by omega) (by omega) (Int.le_trans (Int.ediv_le_self _ s0) (by omega)))
  have ha := HT.out.1
  have hb := HT.out.2.1
  have hab := HT.out.2.2
  by_cases hlt : a < b
  · obtain ⟨y0, y1⟩ := dY_bd ha
    obtain ⟨z0, z1⟩ := dY_bd hb
    obtain ⟨u0, u1⟩ := dM_bd ha
    obtain ⟨v0, v1⟩ := dM_bd hb
    have HM := hide (show 12 * (dY b - dY a) + dM b - dM a = monB a b from rfl)
    have hb1 := begV_pos ha hb hlt
    by_cases hd : dD a < dD b
    · have HX := hide (show max 1 (12 * (dY b - dY a) + dM b - dM a + 1) = begV a b by
        have h : begV a b = monB a b + 1 := by unfold begV; rw [if_pos hd]
        rw [HM.out]; omega)
      clear ha hb hab hb1
      go_enter Try.func35, Try.ntmps35
      go_wp2_with (first | (go_at_call 106; refine (specIn_any _ _ _ _).mono ?_; rintro e w' ⟨rfl, rfl⟩) | (go_at_call 101; refine (specTime_any _ _ _ _ ).mono ?_; rintro e w' ⟨rfl, rfl⟩) | (go_at_call 115; fail) | (go_at_call 107; go_in))
      refine (specDate_any a _ HT.out.1).mono ?_
      rintro e w' ⟨rfl, rfl⟩
      go_wp2_with fail
      refine (specDate_any b _ HT.out.2.1).mono ?_
      rintro e w' ⟨rfl, rfl⟩
      go_wp2_with fail
      refine (specMax_any _ _ _).mono ?_
      rw [HX.out]
      rintro e w' ⟨rfl, rfl⟩
      go_wp2_with fail
      refine HR1.out.mono ?_
      rintro e w' ⟨rfl, rfl⟩
      go_wp2_with fail
      refine HR2.out.mono ?_
      rintro e w' ⟨rfl, rfl⟩
      go_wp2_with (go_at_call 113; refine (specMin_any _ _ _).mono ?_; rintro e w' ⟨rfl, rfl⟩)
      go_ret2
      exact ⟨ret_yes HH.out, Below.refl _ _⟩
    · have HX := hide (show max 1 (12 * (dY b - dY a) + dM b - dM a) = begV a b by
        have h : begV a b = monB a b := by unfold begV; rw [if_neg hd]; omega
        rw [HM.out]; omega)
      clear ha hb hab hb1
      go_enter Try.func35, Try.ntmps35
      go_wp2_with (first | (go_at_call 106; refine (specIn_any _ _ _ _).mono ?_; rintro e w' ⟨rfl, rfl⟩) | (go_at_call 101; refine (specTime_any _ _ _ _ ).mono ?_; rintro e w' ⟨rfl, rfl⟩) | (go_at_call 115; fail) | (go_at_call 107; go_in))
      refine (specDate_any a _ HT.out.1).mono ?_
      rintro e w' ⟨rfl, rfl⟩
      go_wp2_with fail
      refine (specDate_any b _ HT.out.2.1).mono ?_
      rintro e w' ⟨rfl, rfl⟩
      go_wp2_with fail
      refine (specMax_any _ _ _).mono ?_
      rw [HX.out]
      rintro e w' ⟨rfl, rfl⟩
      go_wp2_with fail
      refine HR1.out.mono ?_
      rintro e w' ⟨rfl, rfl⟩
      go_wp2_with fail
      refine HR2.out.mono ?_
      rintro e w' ⟨rfl, rfl⟩
      go_wp2_with (go_at_call 113; refine (specMin_any _ _ _).mono ?_; rintro e w' ⟨rfl, rfl⟩)
      go_ret2
      exact ⟨ret_yes HH.out, Below.refl _ _⟩
  · obtain rfl : a = b := by omega
    have h0 := begV_same a
    have HR0 : Hid (Calls Try.prog 116 #[.int .i64 c, .int .i64 0, .int .i64 10000] w fun e w' => e = .returned (.int .i64 (rnd (c * (r * begV a a)) 10000 1)) ∧ w = w') := by
      have h1 := HR1.out
      have e : r * begV a a = 0 := by rw [h0, Int.mul_zero]
      rw [e] at h1 ⊢
      exact h1
    clear ha hb hab h0 HR1
    go_enter Try.func35, Try.ntmps35
    go_wp2_with (first | (go_at_call 106; refine (specIn_any _ _ _ _).mono ?_; rintro e w' ⟨rfl, rfl⟩) | (go_at_call 101; refine (specTime_any _ _ _ _ ).mono ?_; rintro e w' ⟨rfl, rfl⟩) | (go_at_call 116; fail) | (go_at_call 107; go_in))
    refine HR0.out.mono ?_
    rintro e w' ⟨rfl, rfl⟩
    go_wp2_with fail
    refine HR2.out.mono ?_
    rintro e w' ⟨rfl, rfl⟩
    go_wp2_with (go_at_call 113; refine (specMin_any _ _ _).mono ?_; rintro e w' ⟨rfl, rfl⟩)
    go_ret2
    exact ⟨ret_yes HH.out, Below.refl _ _⟩
set_option maxHeartbeats 4000000 in
theorem implPenaltyOf_any (c r m a b : Int) (w : World) :
    Calls Try.prog 34 #[.int .i64 c, .int .i64 r, .int .i64 m, .int .i64 a, .int .i64 b] w fun e w' => e = .returned (.tuple #[.int .i64 (ifV (penP c r m a b) (penV c r m a b)), .bool (tru (penP c r m a b))]) ∧ Below w.heap.size w w' := by
  cases g0 : inB c 0 1000000000
  · have HH := hide (show ¬ penP c r m a b from fun h => by rw [inB_yes (h.1)] at g0; cases g0)
    go_enter Try.func34, Try.ntmps34
    go_wp2_with (first | (go_at_call 96; refine (implWithin_any _ _ _ _).mono ?_; rintro e w' ⟨rfl, rfl⟩) | go_in)
    go_ret2
    exact ⟨ret_no HH.out, Below.refl _ _⟩
  cases g1 : inB r 0 100000
  · have HH := hide (show ¬ penP c r m a b from fun h => by rw [inB_yes (h.2.1)] at g1; cases g1)
    go_enter Try.func34, Try.ntmps34
    go_wp2_with (first | (go_at_call 96; refine (implWithin_any _ _ _ _).mono ?_; rintro e w' ⟨rfl, rfl⟩) | go_in)
    go_ret2
    exact ⟨ret_no HH.out, Below.refl _ _⟩
  cases g2 : inB m 0 100000
  · have HH := hide (show ¬ penP c r m a b from fun h => by rw [inB_yes (h.2.2.1)] at g2; cases g2)
    go_enter Try.func34, Try.ntmps34
    go_wp2_with (first | (go_at_call 96; refine (implWithin_any _ _ _ _).mono ?_; rintro e w' ⟨rfl, rfl⟩) | go_in)
    go_ret2
    exact ⟨ret_no HH.out, Below.refl _ _⟩
  cases g3 : spanB a b
  · have HH := hide (show ¬ penP c r m a b from fun h => by rw [spanB_iff.2 h.2.2.2] at g3; cases g3)
    go_enter Try.func34, Try.ntmps34
    go_wp2_with (first | (go_at_call 99; refine (implSpan_any _ _ _ ).mono ?_; rintro e w' ⟨rfl, rfl⟩) | (go_at_call 96; refine (implWithin_any _ _ _ _).mono ?_; rintro e w' ⟨rfl, rfl⟩) | go_in)
    go_ret2
    exact ⟨ret_no HH.out, Below.refl _ _⟩
  have HT := hide (spanB_iff.1 g3)
  have HH := hide (show penP c r m a b from ⟨inB_iff.1 g0, inB_iff.1 g1, inB_iff.1 g2, HT.out⟩)
  obtain ⟨⟨p0, p1⟩, ⟨q0, q1⟩, ⟨s0, s1⟩⟩ := pen_bd HH.out
  obtain ⟨c0, c1⟩ := inB_iff.1 g0
  obtain ⟨m0, m1⟩ := inB_iff.1 g2
  obtain ⟨r0, r1⟩ := inB_iff.1 g1
  obtain ⟨x0, x1⟩ := mul_bd c0 c1 r0 r1
  obtain ⟨b0, b1⟩ := begV_bd HT.out.1 HT.out.2.1 HT.out.2.2
  have HQ0 := hide (show 0 ≤ c * r * begV a b by rw [Int.mul_assoc]; exact q0)
  have HQ1 := hide (show c * r * begV a b ≤ 120000000000000000 by rw [Int.mul_assoc]; exact q1)
  have q2 := HQ0.out
  have q3 := HQ1.out
  have HV := hide (show min (rnd (c * r * begV a b) 10000 1) (rnd (c * m) 10000 1) = penV c r m a b by unfold penV; rw [Int.mul_assoc])
  go_enter Try.func34, Try.ntmps34
  go_wp2_with (first | (go_at_call 99; refine (implSpan_any _ _ _ ).mono ?_; rintro e w' ⟨rfl, rfl⟩) | (go_at_call 96; refine (implWithin_any _ _ _ _).mono ?_; rintro e w' ⟨rfl, rfl⟩) | (go_at_call 95; fail) | (go_at_call 103; go_in) | (go_at_call 104; go_in))
  refine (implDate_any a _ HT.out.1).mono ?_
  rintro e w1 ⟨rfl, hb1⟩
  have HB1 := hide hb1
  clear hb1
  go_wp2_with fail
  refine (implDate_any b _ HT.out.2.1).mono ?_
  rintro e w2 ⟨rfl, hb2⟩
  have HB2 := hide (HB1.out.trans (hb2.mono HB1.out.size))
  clear hb2
  go_wp2_with fail
  refine (implBegun_any a b _ HT.out.1 HT.out.2.1 HT.out.2.2).mono ?_
  rintro e w3 ⟨rfl, hb3⟩
  have HB3 := hide (HB2.out.trans (hb3.mono HB2.out.size))
  clear hb3
  go_wp2_with fail
  refine (implRounded_any _ _ _ _ HQ0.out (by omega) (by omega) (by omega) (by omega)).mono ?_
  rintro e w' ⟨rfl, q, rfl⟩
  go_wp2_with fail
  refine (implRounded_any _ _ _ _ s0 (by omega) (by omega) (by omega) (by omega)).mono ?_
  rintro e w' ⟨rfl, q', rfl⟩
  go_wp2
  all_goals
    go_ret2
    exact ⟨ret_val HH.out (by have := HV.out; omega), bel_dN HB3.out _⟩
end Go.Proofs.Ytbcajjpgpjadaaa
