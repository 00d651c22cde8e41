/- RoundPart, by both. -/
import Derived.Test.YtjndhcdanpnniaaB3
namespace Go.Proofs.Ytjndhcdanpnniaa
open Go.RowKit Go.Dues
theorem rnd1_yes {a b : Int} (h : b ≤ 2 * (a % b)) : rnd a b 1 = a / b + 1 := rnd_1y (by omega)
theorem rnd1_no {a b : Int} (h : 2 * (a % b) < b) : rnd a b 1 = a / b := rnd_1n (by omega)
theorem rnd2_yes {a b : Int} (h : b < 2 * (a % b) ∨ 2 * (a % b) = b ∧ a / b % 2 = 1) : rnd a b 2 = a / b + 1 := rnd_2y (by omega)
theorem rnd2_no {a b : Int} (h : ¬ (b < 2 * (a % b) ∨ 2 * (a % b) = b ∧ a / b % 2 = 1)) : rnd a b 2 = a / b := rnd_2n (by omega)
theorem rp_pos {c b o r : Int} (h : 0 ≤ c) : rpV c b o r = rnd (c * b) o r := by unfold rpV; rw [if_pos h]
theorem rp_neg0 {c b o : Int} (h : ¬ 0 ≤ c) : rpV c b o 0 = -rnd (-c * b) o 3 := by unfold rpV; rw [if_neg h, if_pos rfl]
theorem rp_neg {c b o r : Int} (h : ¬ 0 ≤ c) (hr : ¬ r = 0) : rpV c b o r = -rnd (-c * b) o r := by unfold rpV; rw [if_neg h, if_neg hr]
theorem neg_quo {c b o : Int} : (c * b).tdiv o = -((-c * b).tdiv o) ∧ (c * b).tmod o = -((-c * b).tmod o) := by
  have e : c * b = -(-c * b) := by rw [Int.neg_mul, Int.neg_neg]
  constructor
  · conv => lhs; rw [e, Int.neg_tdiv]
  · conv => lhs; rw [e, Int.neg_tmod]
set_option maxHeartbeats 2000000 in
theorem implRoundPart_any (c : Int) (b : Int) (o : Int) (r : Int) (w : World) :
    Calls Try.prog 23 #[.int .i64 c, .int .i64 b, .int .i64 o, .int .i64 r] w fun e w' => e = .returned (.tuple #[.int .i64 (ifV (rpP c b o r) (rpV c b o r)), .bool (tru (rpP c b o r))]) ∧ Below w.heap.size w w' := by
  cases g0 : inB c (-1000000000) (1000000000)
  · have HH := hide (show ¬ rpP c b o r from fun h => by rw [inB_yes (h.1)] at g0; cases g0)
    go_enter Try.func23, Try.ntmps23
    go_wp2_with (first | (go_at_call 92; refine (implWithin_any _ _ _ _).mono ?_; rintro e w' ⟨rfl, rfl⟩) | go_in)
    go_ret2
    exact ⟨ret_no HH.out, Below.refl _ _⟩
  cases g1 : inB b (0) (1000000)
  · have HH := hide (show ¬ rpP c b o r from fun h => by rw [inB_yes (h.2.1)] at g1; cases g1)
    go_enter Try.func23, Try.ntmps23
    go_wp2_with (first | (go_at_call 92; refine (implWithin_any _ _ _ _).mono ?_; rintro e w' ⟨rfl, rfl⟩) | go_in)
    go_ret2
    exact ⟨ret_no HH.out, Below.refl _ _⟩
  cases g2 : inB o (1) (1000000)
  · have HH := hide (show ¬ rpP c b o r from fun h => by rw [inB_yes (h.2.2.1)] at g2; cases g2)
    go_enter Try.func23, Try.ntmps23
    go_wp2_with (first | (go_at_call 92; refine (implWithin_any _ _ _ _).mono ?_; rintro e w' ⟨rfl, rfl⟩) | go_in)
    go_ret2
    exact ⟨ret_no HH.out, Below.refl _ _⟩
  cases g3 : inB r (0) (2)
  · have HH := hide (show ¬ rpP c b o r from fun h => by rw [inB_yes (h.2.2.2)] at g3; cases g3)
    go_enter Try.func23, Try.ntmps23
    go_wp2_with (first | (go_at_call 92; refine (implWithin_any _ _ _ _).mono ?_; rintro e w' ⟨rfl, rfl⟩) | go_in)
    go_ret2
    exact ⟨ret_no HH.out, Below.refl _ _⟩
  have HH := hide (show rpP c b o r from ⟨inB_iff.1 g0, inB_iff.1 g1, inB_iff.1 g2, inB_iff.1 g3⟩)
  obtain ⟨⟨c0, c1⟩, ⟨b0, b1⟩, ⟨o0, o1⟩, ⟨r0, r1⟩⟩ := HH.out
  by_cases hc : 0 ≤ c
  · obtain ⟨m0, m1⟩ := mul_bd (M := 1000000000) (N := 1000000) hc c1 b0 b1
    have HV := hide (rp_pos (b := b) (o := o) (r := r) hc)
    go_enter Try.func23, Try.ntmps23
    go_wp2_with (first | (go_at_call 92; refine (implWithin_any _ _ _ _).mono ?_; rintro e w' ⟨rfl, rfl⟩) | (go_at_call 88; refine (implRounded_any _ _ _ _ m0 (by omega) o0 (by omega) ⟨r0, by omega⟩).mono ?_; rintro e w' ⟨rfl, q, rfl⟩) | go_in)
    go_ret2
    exact ⟨ret_val HH.out HV.out.symm, Joins.below_draws _ _ _⟩
  · obtain ⟨m0, m1⟩ := mul_bd (a := -c) (M := 1000000000) (N := 1000000) (by omega) (by omega) b0 b1
    have q0 : 0 ≤ -c * b / o := Int.ediv_nonneg m0 (by omega)
    have q1 : -c * b / o ≤ -c * b := Int.ediv_le_self _ m0
    by_cases hr : r = 0
    · have HV := hide (rp_neg0 (b := b) (o := o) hc)
      obtain ⟨z0, z1⟩ := rnd_bounds (a := -c * b) (b := o) (r := 3)
      subst hr
      go_enter Try.func23, Try.ntmps23
      go_wp2_with (first | (go_at_call 92; refine (implWithin_any _ _ _ _).mono ?_; rintro e w' ⟨rfl, rfl⟩) | (go_at_call 88; refine (implRounded_any _ _ _ _ m0 (by omega) o0 (by omega) (by omega)).mono ?_; rintro e w' ⟨rfl, q, rfl⟩) | go_in)
      go_ret2
      exact ⟨ret_val HH.out HV.out.symm, Joins.below_draws _ _ _⟩
    · have HV := hide (rp_neg (b := b) (o := o) hc hr)
      obtain ⟨z0, z1⟩ := rnd_bounds (a := -c * b) (b := o) (r := r)
      go_enter Try.func23, Try.ntmps23
      go_wp2_with (first | (go_at_call 92; refine (implWithin_any _ _ _ _).mono ?_; rintro e w' ⟨rfl, rfl⟩) | (go_at_call 88; refine (implRounded_any _ _ _ _ m0 (by omega) o0 (by omega) ⟨r0, by omega⟩).mono ?_; rintro e w' ⟨rfl, q, rfl⟩) | go_in)
      go_ret2
      exact ⟨ret_val HH.out HV.out.symm, Joins.below_draws _ _ _⟩
end Go.Proofs.Ytjndhcdanpnniaa
