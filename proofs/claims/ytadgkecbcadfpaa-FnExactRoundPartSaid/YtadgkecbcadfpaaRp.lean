/- RoundPart, by both. -/
import Derived.Test.YtadgkecbcadfpaaB3
namespace Go.Proofs.Ytadgkecbcadfpaa
open Go.RowKit Go.Dues
theorem rnd1_yes {a b : Int} (h : b ≤ 2 * (a % b)) : rnd a b 1 = a / b + 1 := rnd_1y (by omega)
theorem rnd1_no {a b : Int} (h : 2 * (a % b) < b) : rnd a b 1 = a / b := rnd_1n (by omega)
theorem rnd2_yes {a b : Int} (h : b < 2 * (a % b) ∨ 2 * (a % b) = b ∧ a / b % 2 = 1) : rnd a b 2 = a / b + 1 := rnd_2y (by omega)
theorem rnd2_no {a b : Int} (h : ¬ (b < 2 * (a % b) ∨ 2 * (a % b) = b ∧ a / b % 2 = 1)) : rnd a b 2 = a / b := rnd_2n (by omega)
theorem rp_pos {c b o r : Int} (h : 0 ≤ c) : rpV c b o r = rnd (c * b) o r := by unfold rpV; rw [if_pos h]
theorem rp_neg0 {c b o : Int} (h : ¬ 0 ≤ c) : rpV c b o 0 = -rnd (-c * b) o 3 := by unfold rpV; rw [if_neg h, if_pos rfl]
theorem rp_neg {c b o r : Int} (h : ¬ 0 ≤ c) (hr : ¬ r = 0) : rpV c b o r = -rnd (-c * b) o r := by unfold rpV; rw [if_neg h, if_neg hr]
theorem neg_quo {c b o : Int} : (c * b).tdiv o = -((-c * b).tdiv o) ∧ (c * b).tmod o = -((-c * b).tmod o) := by
  have e : c * b = -(-c * b) := by rw [Int.neg_mul, Int.neg_neg]
  constructor
  · conv => lhs; rw [e, Int.neg_tdiv]
  · conv => lhs; rw [e, Int.neg_tmod]
set_option maxHeartbeats 2000000 in
theorem implRoundPart_any (c : Int) (b : Int) (o : Int) (r : Int) (w : World) :
    Calls Try.prog 30 #[.int .i64 c, .int .i64 b, .int .i64 o, .int .i64 r] w fun e w' => e = .returned (.tuple #[.int .i64 (ifV (rpP c b o r) (rpV c b o r)), .bool (tru (rpP c b o r))]) ∧ Below w.heap.size w w' := by
  cases g0 : inB c (-1000000000) (1000000000)
  · have HH := hide (show ¬ rpP c b o r from fun h => by rw [inB_yes (h.1)] at g0; cases g0)
    go_enter Try.func30, Try.ntmps30
    go_wp2_with (first | (go_at_call 60; refine (implWithin_any _ _ _ _).mono ?_; rintro e w' ⟨rfl, rfl⟩) | go_in)
    go_ret2
    exact ⟨ret_no HH.out, Below.refl _ _⟩
  cases g1 : inB b (0) (1000000)
  · have HH := hide (show ¬ rpP c b o r from fun h => by rw [inB_yes (h.2.1)] at g1; cases g1)
    go_enter Try.func30, Try.ntmps30
    go_wp2_with (first | (go_at_call 60; refine (implWithin_any _ _ _ _).mono ?_; rintro e w' ⟨rfl, rfl⟩) | go_in)
    go_ret2
    exact ⟨ret_no HH.out, Below.refl _ _⟩
  cases g2 : inB o (1) (1000000)
  · have HH := hide (show ¬ rpP c b o r from fun h => by rw [inB_yes (h.2.2.1)] at g2; cases g2)
    go_enter Try.func30, Try.ntmps30
    go_wp2_with (first | (go_at_call 60; refine (implWithin_any _ _ _ _).mono ?_; rintro e w' ⟨rfl, rfl⟩) | go_in)
    go_ret2
    exact ⟨ret_no HH.out, Below.refl _ _⟩
  cases g3 : inB r (0) (2)
  · have HH := hide (show ¬ rpP c b o r from fun h => by rw [inB_yes (h.2.2.2)] at g3; cases g3)
    go_enter Try.func30, Try.ntmps30
    go_wp2_with (first | (go_at_call 60; refine (implWithin_any _ _ _ _).mono ?_; rintro e w' ⟨rfl, rfl⟩) | go_in)
    go_ret2
    exact ⟨ret_no HH.out, Below.refl _ _⟩
  have HH := hide (show rpP c b o r from ⟨inB_iff.1 g0, inB_iff.1 g1, inB_iff.1 g2, inB_iff.1 g3⟩)
  obtain ⟨⟨c0, c1⟩, ⟨b0, b1⟩, ⟨o0, o1⟩, ⟨r0, r1⟩⟩ := HH.out
  by_cases hc : 0 ≤ c
  · obtain ⟨m0, m1⟩ := mul_bd (M := 1000000000) (N := 1000000) hc c1 b0 b1
    have HV := hide (rp_pos (b := b) (o := o) (r := r) hc)
    go_enter Try.func30, Try.ntmps30
    go_wp2_with (first | (go_at_call 60; refine (implWithin_any _ _ _ _).mono ?_; rintro e w' ⟨rfl, rfl⟩) | (go_at_call 61; refine (implRounded_any _ _ _ _ m0 (by omega) o0 (by omega) ⟨r0, by omega⟩).mono ?_; rintro e w' ⟨rfl, q, rfl⟩) | go_in)
    go_ret2
    exact ⟨ret_val HH.out HV.out.symm, Joins.below_draws _ _ _⟩
  · obtain ⟨m0, m1⟩ := mul_bd (a := -c) (M := 1000000000) (N := 1000000) (by omega) (by omega) b0 b1
    have q0 : 0 ≤ -c * b / o := Int.ediv_nonneg m0 (by omega)
    have q1 : -c * b / o ≤ -c * b := Int.ediv_le_self _ m0
    by_cases hr : r = 0
    · have HV := hide (rp_neg0 (b := b) (o := o) hc)
      obtain ⟨z0, z1⟩ := rnd_bounds (a := -c * b) (b := o) (r := 3)
      subst hr
      go_enter Try.func30, Try.ntmps30
      go_wp2_with (first | (go_at_call 60; refine (implWithin_any _ _ _ _).mono ?_; rintro e w' ⟨rfl, rfl⟩) | (go_at_call 61; refine (implRounded_any _ _ _ _ m0 (by omega) o0 (by omega) (by omega)).mono ?_; rintro e w' ⟨rfl, q, rfl⟩) | go_in)
      go_ret2
      exact ⟨ret_val HH.out HV.out.symm, Joins.below_draws _ _ _⟩
    · have HV := hide (rp_neg (b := b) (o := o) hc hr)
      obtain ⟨z0, z1⟩ := rnd_bounds (a := -c * b) (b := o) (r := r)
      go_enter Try.func30, Try.ntmps30
      go_wp2_with (first | (go_at_call 60; refine (implWithin_any _ _ _ _).mono ?_; rintro e w' ⟨rfl, rfl⟩) | (go_at_call 61; refine (implRounded_any _ _ _ _ m0 (by omega) o0 (by omega) ⟨r0, by omega⟩).mono ?_; rintro e w' ⟨rfl, q, rfl⟩) | go_in)
      go_ret2
      exact ⟨ret_val HH.out HV.out.symm, Joins.below_draws _ _ _⟩
set_option maxHeartbeats 2000000 in
theorem specRoundPart_any (c : Int) (b : Int) (o : Int) (r : Int) (w : World) :
    Calls Try.prog 29 #[.int .i64 c, .int .i64 b, .int .i64 o, .int .i64 r] w fun e w' => e = .returned (.tuple #[.int .i64 (ifV (rpP c b o r) (rpV c b o r)), .bool (tru (rpP c b o r))]) ∧ Below w.heap.size w w' := by
  cases g0 : inB c (-1000000000) (1000000000)
  · have HH := hide (show ¬ rpP c b o r from fun h => by rw [inB_yes (h.1)] at g0; cases g0)
    go_enter Try.func29, Try.ntmps29
    go_wp2_with (first | (go_at_call 58; refine (specIn_any _ _ _ _).mono ?_; rintro e w' ⟨rfl, rfl⟩) | go_in)
    go_ret2
    exact ⟨ret_no HH.out, Below.refl _ _⟩
  cases g1 : inB b (0) (1000000)
  · have HH := hide (show ¬ rpP c b o r from fun h => by rw [inB_yes (h.2.1)] at g1; cases g1)
    go_enter Try.func29, Try.ntmps29
    go_wp2_with (first | (go_at_call 58; refine (specIn_any _ _ _ _).mono ?_; rintro e w' ⟨rfl, rfl⟩) | go_in)
    go_ret2
    exact ⟨ret_no HH.out, Below.refl _ _⟩
  cases g2 : inB o (1) (1000000)
  · have HH := hide (show ¬ rpP c b o r from fun h => by rw [inB_yes (h.2.2.1)] at g2; cases g2)
    go_enter Try.func29, Try.ntmps29
    go_wp2_with (first | (go_at_call 58; refine (specIn_any _ _ _ _).mono ?_; rintro e w' ⟨rfl, rfl⟩) | go_in)
    go_ret2
    exact ⟨ret_no HH.out, Below.refl _ _⟩
  cases g3 : inB r (0) (2)
  · have HH := hide (show ¬ rpP c b o r from fun h => by rw [inB_yes (h.2.2.2)] at g3; cases g3)
    go_enter Try.func29, Try.ntmps29
    go_wp2_with (first | (go_at_call 58; refine (specIn_any _ _ _ _).mono ?_; rintro e w' ⟨rfl, rfl⟩) | go_in)
    go_ret2
    exact ⟨ret_no HH.out, Below.refl _ _⟩
  have HH := hide (show rpP c b o r from ⟨inB_iff.1 g0, inB_iff.1 g1, inB_iff.1 g2, inB_iff.1 g3⟩)
  obtain ⟨⟨c0, c1⟩, ⟨b0, b1⟩, ⟨o0, o1⟩, ⟨r0, r1⟩⟩ := HH.out
  have r3 : r = 0 ∨ r = 1 ∨ r = 2 := by omega
  have hne : ¬ o = 0 := by omega
  clear r0 r1
  by_cases hc : 0 ≤ c
  · obtain ⟨m0, m1⟩ := mul_bd (M := 1000000000) (N := 1000000) hc c1 b0 b1
    have q0 : 0 ≤ c * b / o := Int.ediv_nonneg m0 (by omega)
    have q1 : c * b / o ≤ c * b := Int.ediv_le_self _ m0
    have t0 : 0 ≤ c * b % o := Int.emod_nonneg _ (by omega)
    have t1 : c * b % o < o := Int.emod_lt_of_pos _ (by omega)
    rcases r3 with rfl | rfl | rfl
    · have HV := hide ((rp_pos (b := b) (o := o) (r := 0) hc).trans (rnd_0 _ _))
      go_enter Try.func29, Try.ntmps29
      go_wp2_with (first | (go_at_call 58; refine (specIn_any _ _ _ _).mono ?_; rintro e w' ⟨rfl, rfl⟩))
      go_ret2
      exact ⟨ret_val HH.out HV.out.symm, Below.refl _ _⟩
    · rcases Int.lt_trichotomy (2 * (c * b % o)) o with h | h | h
      · have HV := hide ((rp_pos (b := b) (o := o) (r := 1) hc).trans (rnd1_no h))
        have g : (2 * (c * b % o) == o) = false := by rw [beq_eq_false_iff_ne]; omega
        go_enter Try.func29, Try.ntmps29
        go_wp2_with (first | (go_at_call 58; refine (specIn_any _ _ _ _).mono ?_; rintro e w' ⟨rfl, rfl⟩))
        go_ret2
        exact ⟨ret_val HH.out HV.out.symm, Below.refl _ _⟩
      · have HV := hide ((rp_pos (b := b) (o := o) (r := 1) hc).trans (rnd1_yes (by omega)))
        have g : (2 * (c * b % o) == o) = true := by rw [beq_iff_eq]; omega
        have h1 := h
        have hx : 0 < c * b := by
          rcases Int.lt_or_eq_of_le m0 with h | h
          · exact h
          · rw [← h] at h1; simp at h1; omega
        have hle : 2 * (c * b % o) ≤ o := by omega
        clear h h1
        go_enter Try.func29, Try.ntmps29
        go_wp2_with (first | (go_at_call 58; refine (specIn_any _ _ _ _).mono ?_; rintro e w' ⟨rfl, rfl⟩))
        go_ret2
        exact ⟨ret_val HH.out HV.out.symm, Below.refl _ _⟩
      · have HV := hide ((rp_pos (b := b) (o := o) (r := 1) hc).trans (rnd1_yes (by omega)))
        go_enter Try.func29, Try.ntmps29
        go_wp2_with (first | (go_at_call 58; refine (specIn_any _ _ _ _).mono ?_; rintro e w' ⟨rfl, rfl⟩))
        go_ret2
        exact ⟨ret_val HH.out HV.out.symm, Below.refl _ _⟩
    · rcases Int.lt_trichotomy (2 * (c * b % o)) o with h | h | h
      · have HV := hide ((rp_pos (b := b) (o := o) (r := 2) hc).trans (rnd2_no (by omega)))
        have g : (2 * (c * b % o) == o) = false := by rw [beq_eq_false_iff_ne]; omega
        go_enter Try.func29, Try.ntmps29
        go_wp2_with (first | (go_at_call 58; refine (specIn_any _ _ _ _).mono ?_; rintro e w' ⟨rfl, rfl⟩))
        go_ret2
        exact ⟨ret_val HH.out HV.out.symm, Below.refl _ _⟩
      · have g : (2 * (c * b % o) == o) = true := by rw [beq_iff_eq]; omega
        by_cases hq : c * b / o % 2 = 1
        · have HV := hide ((rp_pos (b := b) (o := o) (r := 2) hc).trans (rnd2_yes (by omega)))
          have k : (c * b / o % 2 == 0) = false := by rw [beq_eq_false_iff_ne]; omega
          have k' : (c * b / o % 2 != 0) = true := by rw [bne_iff_ne]; omega
          have hle : 2 * (c * b % o) ≤ o := by omega
          clear h hq
          go_enter Try.func29, Try.ntmps29
          go_wp2_with (first | (go_at_call 58; refine (specIn_any _ _ _ _).mono ?_; rintro e w' ⟨rfl, rfl⟩))
          go_ret2
          exact ⟨ret_val HH.out HV.out.symm, Below.refl _ _⟩
        · have HV := hide ((rp_pos (b := b) (o := o) (r := 2) hc).trans (rnd2_no (by omega)))
          have k : (c * b / o % 2 == 0) = true := by rw [beq_iff_eq]; omega
          have k' : (c * b / o % 2 != 0) = false := by rw [bne_eq_false_iff_eq]; omega
          have hle : 2 * (c * b % o) ≤ o := by omega
          clear h hq
          go_enter Try.func29, Try.ntmps29
          go_wp2_with (first | (go_at_call 58; refine (specIn_any _ _ _ _).mono ?_; rintro e w' ⟨rfl, rfl⟩))
          go_ret2
          exact ⟨ret_val HH.out HV.out.symm, Below.refl _ _⟩
      · have HV := hide ((rp_pos (b := b) (o := o) (r := 2) hc).trans (rnd2_yes (by omega)))
        go_enter Try.func29, Try.ntmps29
        go_wp2_with (first | (go_at_call 58; refine (specIn_any _ _ _ _).mono ?_; rintro e w' ⟨rfl, rfl⟩))
        go_ret2
        exact ⟨ret_val HH.out HV.out.symm, Below.refl _ _⟩
  · obtain ⟨m0, m1⟩ := mul_bd (a := -c) (M := 1000000000) (N := 1000000) (by omega) (by omega) b0 b1
    obtain ⟨e1, e2⟩ := neg_quo (c := c) (b := b) (o := o)
    have q0 : 0 ≤ -c * b / o := Int.ediv_nonneg m0 (by omega)
    have q1 : -c * b / o ≤ -c * b := Int.ediv_le_self _ m0
    have t0 : 0 ≤ -c * b % o := Int.emod_nonneg _ (by omega)
    have t1 : -c * b % o < o := Int.emod_lt_of_pos _ (by omega)
    have em : c * b = -(-c * b) := by rw [Int.neg_mul, Int.neg_neg]
    have n0 : c * b ≤ 0 := by omega
    have n1 : -1000000000000000 ≤ c * b := by omega
    rw [Int.tdiv_eq_ediv_of_nonneg m0] at e1
    rw [Int.tmod_eq_emod_of_nonneg m0] at e2
    have f0 := rp_neg0 (b := b) (o := o) hc
    have f1 := rp_neg (b := b) (o := o) (r := 1) hc (by omega)
    have f2 := rp_neg (b := b) (o := o) (r := 2) hc (by omega)
    have hq0 := rnd_3y (a := -c * b) (b := o)
    have hq0' := rnd_3n (a := -c * b) (b := o)
    have hq1 := rnd1_yes (a := -c * b) (b := o)
    have hq1' := rnd1_no (a := -c * b) (b := o)
    have hq2 := rnd2_yes (a := -c * b) (b := o)
    have hq2' := rnd2_no (a := -c * b) (b := o)
    have qb : -c * b / o ≤ 1000000000000000 := by omega
    clear em m0 m1 q1
    generalize -c * b / o = Q at *
    generalize -c * b % o = R at *
    have F0 := hide f0
    have F1 := hide f1
    have F2 := hide f2
    have Q0 := hide hq0
    have Q0' := hide hq0'
    have Q1 := hide hq1
    have Q1' := hide hq1'
    have Q2 := hide hq2
    have Q2' := hide hq2'
    clear f0 f1 f2 hq0 hq0' hq1 hq1' hq2 hq2'
    by_cases hR : R = 0
    · subst hR
      simp only [Int.neg_zero] at e2
      rcases r3 with rfl | rfl | rfl
      · have HV := hide (show rpV c b o 0 = -Q by rw [F0.out, Q0'.out (by omega)])
        go_enter Try.func29, Try.ntmps29
        go_wp2_with (first | (go_at_call 58; refine (specIn_any _ _ _ _).mono ?_; rintro e w' ⟨rfl, rfl⟩))
        go_ret2
        exact ⟨ret_val HH.out HV.out.symm, Below.refl _ _⟩
      · have HV := hide (show rpV c b o 1 = -Q by rw [F1.out, Q1'.out (by omega)])
        go_enter Try.func29, Try.ntmps29
        go_wp2_with (first | (go_at_call 58; refine (specIn_any _ _ _ _).mono ?_; rintro e w' ⟨rfl, rfl⟩))
        go_ret2
        exact ⟨ret_val HH.out HV.out.symm, Below.refl _ _⟩
      · have HV := hide (show rpV c b o 2 = -Q by rw [F2.out, Q2'.out (by omega)])
        go_enter Try.func29, Try.ntmps29
        go_wp2_with (first | (go_at_call 58; refine (specIn_any _ _ _ _).mono ?_; rintro e w' ⟨rfl, rfl⟩))
        go_ret2
        exact ⟨ret_val HH.out HV.out.symm, Below.refl _ _⟩
    · have hR1 : -R < 0 := by omega
      rcases r3 with rfl | rfl | rfl
      · have HV := hide (show rpV c b o 0 = -Q - 1 by rw [F0.out, Q0.out (by omega)]; omega)
        clear hR
        go_enter Try.func29, Try.ntmps29
        go_wp2_with (first | (go_at_call 58; refine (specIn_any _ _ _ _).mono ?_; rintro e w' ⟨rfl, rfl⟩))
        go_ret2
        exact ⟨ret_val HH.out HV.out.symm, Below.refl _ _⟩
      · rcases Int.lt_trichotomy (2 * (-R + o)) o with h | h | h
        · have HV := hide (show rpV c b o 1 = -Q - 1 by rw [F1.out, Q1.out (by omega)]; omega)
          have g : (2 * (-R + o) == o) = false := by rw [beq_eq_false_iff_ne]; omega
          clear hR
          go_enter Try.func29, Try.ntmps29
          go_wp2_with (first | (go_at_call 58; refine (specIn_any _ _ _ _).mono ?_; rintro e w' ⟨rfl, rfl⟩))
          go_ret2
          exact ⟨ret_val HH.out HV.out.symm, Below.refl _ _⟩
        · have HV := hide (show rpV c b o 1 = -Q - 1 by rw [F1.out, Q1.out (by omega)]; omega)
          have g : (2 * (-R + o) == o) = true := by rw [beq_iff_eq]; omega
          have hle : 2 * (-R + o) ≤ o := by omega
          clear h hR
          go_enter Try.func29, Try.ntmps29
          go_wp2_with (first | (go_at_call 58; refine (specIn_any _ _ _ _).mono ?_; rintro e w' ⟨rfl, rfl⟩))
          go_ret2
          exact ⟨ret_val HH.out HV.out.symm, Below.refl _ _⟩
        · have HV := hide (show rpV c b o 1 = -Q by rw [F1.out, Q1'.out (by omega)])
          clear hR
          go_enter Try.func29, Try.ntmps29
          go_wp2_with (first | (go_at_call 58; refine (specIn_any _ _ _ _).mono ?_; rintro e w' ⟨rfl, rfl⟩))
          go_ret2
          exact ⟨ret_val HH.out HV.out.symm, Below.refl _ _⟩
      · rcases Int.lt_trichotomy (2 * (-R + o)) o with h | h | h
        · have HV := hide (show rpV c b o 2 = -Q - 1 by rw [F2.out, Q2.out (by omega)]; omega)
          have g : (2 * (-R + o) == o) = false := by rw [beq_eq_false_iff_ne]; omega
          clear hR
          go_enter Try.func29, Try.ntmps29
          go_wp2_with (first | (go_at_call 58; refine (specIn_any _ _ _ _).mono ?_; rintro e w' ⟨rfl, rfl⟩))
          go_ret2
          exact ⟨ret_val HH.out HV.out.symm, Below.refl _ _⟩
        · have g : (2 * (-R + o) == o) = true := by rw [beq_iff_eq]; omega
          by_cases hq : Q % 2 = 1
          · have HV := hide (show rpV c b o 2 = -Q - 1 by rw [F2.out, Q2.out (by omega)]; omega)
            have k0 : (-Q - 1).tmod 2 = 0 := by
              have h1 : -Q - 1 = -(Q + 1) := by omega
              rw [h1, Int.neg_tmod, Int.tmod_eq_emod_of_nonneg (by omega)]; omega
            have hle : 2 * (-R + o) ≤ o := by omega
            clear h hR hq
            go_enter Try.func29, Try.ntmps29
            go_wp2_with (first | (go_at_call 58; refine (specIn_any _ _ _ _).mono ?_; rintro e w' ⟨rfl, rfl⟩))
            go_ret2
            exact ⟨ret_val HH.out HV.out.symm, Below.refl _ _⟩
          · have HV := hide (show rpV c b o 2 = -Q by rw [F2.out, Q2'.out (by omega)])
            have k0 : (-Q - 1).tmod 2 = -1 := by
              have h1 : -Q - 1 = -(Q + 1) := by omega
              rw [h1, Int.neg_tmod, Int.tmod_eq_emod_of_nonneg (by omega)]; omega
            have hle : 2 * (-R + o) ≤ o := by omega
            clear h hR hq
            go_enter Try.func29, Try.ntmps29
            go_wp2_with (first | (go_at_call 58; refine (specIn_any _ _ _ _).mono ?_; rintro e w' ⟨rfl, rfl⟩))
            go_ret2
            exact ⟨ret_val HH.out HV.out.symm, Below.refl _ _⟩
        · have HV := hide (show rpV c b o 2 = -Q by rw [F2.out, Q2'.out (by omega)])
          clear hR
          go_enter Try.func29, Try.ntmps29
          go_wp2_with (first | (go_at_call 58; refine (specIn_any _ _ _ _).mono ?_; rintro e w' ⟨rfl, rfl⟩))
          go_ret2
          exact ⟨ret_val HH.out HV.out.symm, Below.refl _ _⟩
end Go.Proofs.Ytadgkecbcadfpaa
