/- Interest and penalties, by both. -/
import Derived.Test.YtbcajjpgpjadaaaBt
import Derived.Test.YtbcajjpgpjadaaaTw
namespace Go.Proofs.Ytbcajjpgpjadaaa
open Go.RowKit Go.Dues
def intP (c r k a b : Int) : Prop := (0 ≤ c ∧ c ≤ 1000000000) ∧ (0 ≤ r ∧ r ≤ 100000) ∧ timeP k a b
def intV (c r k a b : Int) : Int := rnd (c * (r * btwN k a b)) (10000 * btwM k) 1
theorem int_bd {c r k a b : Int} (h : intP c r k a b) : 0 ≤ r * btwN k a b ∧ r * btwN k a b ≤ 3652400000 ∧ 0 ≤ c * (r * btwN k a b) ∧ c * (r * btwN k a b) ≤ 3652400000000000000 := by
  have h1 := btwN_bd h.2.2
  have h2 := mul_bd h.2.1.1 h.2.1.2 h1.1 h1.2
  have h3 := mul_bd (N := 3652400000) h.1.1 h.1.2 h2.1 (by omega)
  exact ⟨h2.1, by omega, h3.1, by omega⟩
theorem intV_bd {c r k a b : Int} (h : intP c r k a b) : 0 ≤ intV c r k a b ∧ intV c r k a b ≤ 1015000000000 := by
  have h1 := int_bd h
  have h2 := btwM_bd k
  have h3 := rnd1_bd (b := 10000 * btwM k) h1.2.2.1 (by omega)
  have h4 : c * (r * btwN k a b) / (10000 * btwM k) ≤ c * (r * btwN k a b) / 3600000 := by
    apply Int.le_ediv_of_mul_le (by omega)
    have h5 : 0 ≤ c * (r * btwN k a b) / (10000 * btwM k) := Int.ediv_nonneg h1.2.2.1 (by omega)
    have h6 := Int.ediv_mul_le (c * (r * btwN k a b)) (b := 10000 * btwM k) (by omega)
    have h7 : c * (r * btwN k a b) / (10000 * btwM k) * 3600000 ≤ c * (r * btwN k a b) / (10000 * btwM k) * (10000 * btwM k) := Int.mul_le_mul_of_nonneg_left (by omega) h5
    omega
  unfold intV
  omega
theorem implDB_yes {k a b : Int} (w : World) (h : timeP k a b) : Calls Try.prog 28 #[.int .i64 k, .int .i64 a, .int .i64 b] w fun e w' => e = .returned (.tuple #[.int .i64 (btwN k a b), .int .i64 (btwM k), .bool true]) ∧ Below w.heap.size w w' :=
  (implDaysBetween_any k a b w).mono fun _ _ ⟨he, hb⟩ => ⟨by rw [he, ifV_yes h, ifV_yes h, tru_yes h], hb⟩
theorem implDB_no {k a b : Int} (w : World) (h : ¬ timeP k a b) : Calls Try.prog 28 #[.int .i64 k, .int .i64 a, .int .i64 b] w fun e w' => e = .returned (.tuple #[.int .i64 0, .int .i64 0, .bool false]) ∧ Below w.heap.size w w' :=
  (implDaysBetween_any k a b w).mono fun _ _ ⟨he, hb⟩ => ⟨by rw [he, ifV_no h, ifV_no h, tru_no h], hb⟩
set_option maxHeartbeats 2000000 in
theorem specInterest_any (c r k a b : Int) (w : World) (h : intP c r k a b) :
    Calls Try.prog 108 #[.int .i64 c, .int .i64 r, .int .i64 k, .int .i64 a, .int .i64 b] w fun e w' => e = .returned (.int .i64 (intV c r k a b)) ∧ w = w' := by
  have HB := hide (specBetween_any k a b w h.2.2)
  obtain ⟨p0, p1, q0, q1⟩ := int_bd h
  obtain ⟨m0, m1⟩ := btwM_bd k
  obtain ⟨n0, n1⟩ := btwN_bd h.2.2
  obtain ⟨⟨c0, c1⟩, ⟨r0, r1⟩, _⟩ := h
  have hq : c * (r * btwN k a b) / (10000 * btwM k) ≤ 4000000000000000000 := Int.le_trans (Int.ediv_le_self _ q0) (by omega)
  have HR := hide (specRounded_any c (r * btwN k a b) (10000 * btwM k) w c0 (by omega) p0 (by omega) (by omega) (by omega) hq)
  clear hq
  go_enter Try.func108, Try.ntmps108
  go_wp2_with fail
  refine HB.out.mono ?_
  rintro e w' ⟨rfl, rfl⟩
  go_wp2_with fail
  refine HR.out.mono ?_
  rintro e w' ⟨rfl, rfl⟩
  go_wp2
  go_ret
  exact ⟨rfl, rfl⟩
set_option maxHeartbeats 2000000 in
theorem specInterestOf_any (c r k a b : Int) (w : World) :
    Calls Try.prog 31 #[.int .i64 c, .int .i64 r, .int .i64 k, .int .i64 a, .int .i64 b] w fun e w' => e = .returned (.tuple #[.int .i64 (ifV (intP c r k a b) (intV c r k a b)), .bool (tru (intP c r k a b))]) ∧ Below w.heap.size w w' := by
  cases g0 : inB c 0 1000000000
  · have HH := hide (show ¬ intP c r k a b from fun h => by rw [inB_yes (h.1)] at g0; cases g0)
    go_enter Try.func31, Try.ntmps31
    go_wp2_with (first | (go_at_call 106; refine (specIn_any _ _ _ _).mono ?_; rintro e w' ⟨rfl, rfl⟩) | go_in)
    go_ret2
    exact ⟨ret_no HH.out, Below.refl _ _⟩
  cases g1 : inB r 0 100000
  · have HH := hide (show ¬ intP c r k a b from fun h => by rw [inB_yes (h.2.1)] at g1; cases g1)
    go_enter Try.func31, Try.ntmps31
    go_wp2_with (first | (go_at_call 106; refine (specIn_any _ _ _ _).mono ?_; rintro e w' ⟨rfl, rfl⟩) | go_in)
    go_ret2
    exact ⟨ret_no HH.out, Below.refl _ _⟩
  cases g2 : timeB k a b
  · have HH := hide (show ¬ intP c r k a b from fun h => by rw [timeB_iff.2 h.2.2] at g2; cases g2)
    go_enter Try.func31, Try.ntmps31
    go_wp2_with (first | (go_at_call 106; refine (specIn_any _ _ _ _).mono ?_; rintro e w' ⟨rfl, rfl⟩) | (go_at_call 101; refine (specTime_any _ _ _ _ ).mono ?_; rintro e w' ⟨rfl, rfl⟩) | go_in)
    go_ret2
    exact ⟨ret_no HH.out, Below.refl _ _⟩
  have HH := hide (show intP c r k a b from ⟨inB_iff.1 g0, inB_iff.1 g1, timeB_iff.1 g2⟩)
  go_enter Try.func31, Try.ntmps31
  go_wp2_with (first | (go_at_call 106; refine (specIn_any _ _ _ _).mono ?_; rintro e w' ⟨rfl, rfl⟩) | (go_at_call 101; refine (specTime_any _ _ _ _ ).mono ?_; rintro e w' ⟨rfl, rfl⟩) | (go_at_call 108; refine (specInterest_any _ _ _ _ _ _ HH.out).mono ?_; rintro e w' ⟨rfl, rfl⟩) | go_in)
  go_ret2
  exact ⟨ret_yes HH.out, Below.refl _ _⟩
set_option maxHeartbeats 2000000 in
theorem implInterestOf_any (c r k a b : Int) (w : World) :
    Calls Try.prog 30 #[.int .i64 c, .int .i64 r, .int .i64 k, .int .i64 a, .int .i64 b] w fun e w' => e = .returned (.tuple #[.int .i64 (ifV (intP c r k a b) (intV c r k a b)), .bool (tru (intP c r k a b))]) ∧ Below w.heap.size w w' := by
  by_cases ht : timeP k a b
  · have HT := hide ht
    clear ht
    cases g0 : inB c 0 1000000000
    · have HH := hide (show ¬ intP c r k a b from fun h => by rw [inB_yes (h.1)] at g0; cases g0)
      go_enter Try.func30, Try.ntmps30
      go_wp2_with fail
      refine (implDB_yes _ HT.out).mono ?_
      rintro e w1 ⟨rfl, hb⟩
      have HB1 := hide hb
      clear hb
      go_wp2_with (first | (go_at_call 96; refine (implWithin_any _ _ _ _).mono ?_; rintro e w' ⟨rfl, rfl⟩) | go_in)
      go_ret2
      exact ⟨ret_no HH.out, HB1.out⟩
    cases g1 : inB r 0 100000
    · have HH := hide (show ¬ intP c r k a b from fun h => by rw [inB_yes (h.2.1)] at g1; cases g1)
      go_enter Try.func30, Try.ntmps30
      go_wp2_with fail
      refine (implDB_yes _ HT.out).mono ?_
      rintro e w1 ⟨rfl, hb⟩
      have HB1 := hide hb
      clear hb
      go_wp2_with (first | (go_at_call 96; refine (implWithin_any _ _ _ _).mono ?_; rintro e w' ⟨rfl, rfl⟩) | go_in)
      go_ret2
      exact ⟨ret_no HH.out, HB1.out⟩
    have HH := hide (show intP c r k a b from ⟨inB_iff.1 g0, inB_iff.1 g1, HT.out⟩)
    obtain ⟨p0, p1, q0, q1⟩ := int_bd HH.out
    obtain ⟨m0, m1⟩ := btwM_bd k
    obtain ⟨n0, n1⟩ := btwN_bd HT.out
    obtain ⟨c0, c1⟩ := inB_iff.1 g0
    obtain ⟨r0, r1⟩ := inB_iff.1 g1
    obtain ⟨x0, x1⟩ := mul_bd c0 c1 r0 r1
    have q2 : 0 ≤ c * r * btwN k a b := by rw [Int.mul_assoc]; exact q0
    have q3 : c * r * btwN k a b ≤ 3652400000000000000 := by rw [Int.mul_assoc]; exact q1
    have HV := hide (show rnd (c * r * btwN k a b) (10000 * btwM k) 1 = intV c r k a b by unfold intV; rw [Int.mul_assoc])
    go_enter Try.func30, Try.ntmps30
    go_wp2_with fail
    refine (implDB_yes _ HT.out).mono ?_
    rintro e w1 ⟨rfl, hb⟩
    have HB1 := hide hb
    clear hb
    go_wp2_with (first | (go_at_call 96; refine (implWithin_any _ _ _ _).mono ?_; rintro e w' ⟨rfl, rfl⟩) | (go_at_call 105; refine (implRounded_any _ _ _ _ q2 (by omega) (by omega) (by omega) (by omega)).mono ?_; rintro e w' ⟨rfl, q, rfl⟩) | go_in)
    go_ret2
    exact ⟨ret_val HH.out HV.out, bel_dN HB1.out _⟩
  · have HH := hide (show ¬ intP c r k a b from fun h => ht h.2.2)
    have HT := hide ht
    clear ht
    go_enter Try.func30, Try.ntmps30
    go_wp2_with fail
    refine (implDB_no _ HT.out).mono ?_
    rintro e w1 ⟨rfl, hb⟩
    have HB1 := hide hb
    clear hb
    go_wp2
    go_ret2
    exact ⟨ret_no HH.out, HB1.out⟩
end Go.Proofs.Ytbcajjpgpjadaaa
