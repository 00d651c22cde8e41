/- NetOfPrice, IsOrigin, CreditLimit, by both. -/
import Derived.Test.YtjebkagbknmdoaaC4
namespace Go.Proofs.Ytjebkagbknmdoaa
open Go.RowKit Go.Dues
def npP (p r d : Int) : Prop := (0 ≤ p ∧ p ≤ 1000000000000) ∧ (0 ≤ r ∧ r ≤ 10000) ∧ (0 ≤ d ∧ d ≤ 3)
def ioP (o a r : Int) : Prop := (0 ≤ a ∧ a ≤ 1000000000000) ∧ (0 ≤ o ∧ o ≤ a) ∧ (0 ≤ r ∧ r ≤ 10000)
def ioQ (o a r : Int) : Prop := ioP o a r ∧ a * r ≤ o * 10000
theorem io_no {o a r : Int} (h : ¬ ioP o a r) : Ending.returned (.tuple #[.bool false, .bool false]) = .returned (.tuple #[.bool (tru (ioQ o a r)), .bool (tru (ioP o a r))]) := retbb (tru_no (fun hh => h hh.1)).symm (tru_no h).symm
theorem io_yes {o a r : Int} {b : Bool} (h : ioP o a r) (hb : b = decide (a * r ≤ o * 10000)) : Ending.returned (.tuple #[.bool b, .bool true]) = .returned (.tuple #[.bool (tru (ioQ o a r)), .bool (tru (ioP o a r))]) := by
  refine retbb ?_ (tru_yes h).symm
  rw [hb]
  by_cases hq : a * r ≤ o * 10000
  · rw [decide_eq_true hq]; exact (tru_yes ⟨h, hq⟩).symm
  · rw [decide_eq_false hq]; exact (tru_no (fun hh => hq hh.2)).symm
set_option maxHeartbeats 2000000 in
theorem implIsOrigin_any (o : Int) (a : Int) (r : Int) (w : World) :
    Calls Try.prog 22 #[.int .i64 o, .int .i64 a, .int .i64 r] w fun e w' => e = .returned (.tuple #[.bool (tru (ioQ o a r)), .bool (tru (ioP o a r))]) ∧ Below w.heap.size w w' := by
  have HP := hide (blocks1 w (.cells #[.int .i64 o, .int .i64 a] 2))
  have HB := hide ((Below.refl w.heap.size w).alloc (Nat.le_refl _) (.cells #[.int .i64 o, .int .i64 a] 2))
  cases ho : amtB o
  · have HH := hide (show ¬ ioP o a r from fun h => by rw [amtB_yes ⟨h.2.1.1, by have := h.1; have := h.2.1; omega⟩] at ho; cases ho)
    go_enter Try.func22, Try.ntmps22
    go_wp2_with fail
    refine (implAmounts2_any w.heap.size o a _ HP.out).mono ?_
    rintro e w' ⟨rfl, rfl⟩
    go_wp2_with (first | (go_at_call 70; refine (implAmount_any _ _ ).mono ?_; rintro e w' ⟨rfl, rfl⟩) | (go_at_call 75; refine (implRate_any _ _ ).mono ?_; rintro e w' ⟨rfl, rfl⟩) | (go_at_call 72; refine (implRound_any _ _ ).mono ?_; rintro e w' ⟨rfl, rfl⟩) | (go_at_call 71; refine (implWithin_any _ _ _ _ ).mono ?_; rintro e w' ⟨rfl, rfl⟩) | go_in)
    all_goals
      go_ret2
      exact ⟨io_no HH.out, HB.out⟩
  cases ha : amtB a
  · have HH := hide (show ¬ ioP o a r from fun h => by rw [amtB_yes h.1] at ha; cases ha)
    go_enter Try.func22, Try.ntmps22
    go_wp2_with fail
    refine (implAmounts2_any w.heap.size o a _ HP.out).mono ?_
    rintro e w' ⟨rfl, rfl⟩
    go_wp2_with (first | (go_at_call 70; refine (implAmount_any _ _ ).mono ?_; rintro e w' ⟨rfl, rfl⟩) | (go_at_call 75; refine (implRate_any _ _ ).mono ?_; rintro e w' ⟨rfl, rfl⟩) | (go_at_call 72; refine (implRound_any _ _ ).mono ?_; rintro e w' ⟨rfl, rfl⟩) | (go_at_call 71; refine (implWithin_any _ _ _ _ ).mono ?_; rintro e w' ⟨rfl, rfl⟩) | go_in)
    all_goals
      go_ret2
      exact ⟨io_no HH.out, HB.out⟩
  by_cases hoa : a < o
  · have HH := hide (show ¬ ioP o a r from fun h => by have := h.2.1; omega)
    go_enter Try.func22, Try.ntmps22
    go_wp2_with fail
    refine (implAmounts2_any w.heap.size o a _ HP.out).mono ?_
    rintro e w' ⟨rfl, rfl⟩
    go_wp2_with (first | (go_at_call 70; refine (implAmount_any _ _ ).mono ?_; rintro e w' ⟨rfl, rfl⟩) | (go_at_call 75; refine (implRate_any _ _ ).mono ?_; rintro e w' ⟨rfl, rfl⟩) | (go_at_call 72; refine (implRound_any _ _ ).mono ?_; rintro e w' ⟨rfl, rfl⟩) | (go_at_call 71; refine (implWithin_any _ _ _ _ ).mono ?_; rintro e w' ⟨rfl, rfl⟩) | go_in)
    all_goals
      go_ret2
      exact ⟨io_no HH.out, HB.out⟩
  cases hr : ratB r
  · have HH := hide (show ¬ ioP o a r from fun h => by rw [ratB_yes h.2.2] at hr; cases hr)
    go_enter Try.func22, Try.ntmps22
    go_wp2_with fail
    refine (implAmounts2_any w.heap.size o a _ HP.out).mono ?_
    rintro e w' ⟨rfl, rfl⟩
    go_wp2_with (first | (go_at_call 70; refine (implAmount_any _ _ ).mono ?_; rintro e w' ⟨rfl, rfl⟩) | (go_at_call 75; refine (implRate_any _ _ ).mono ?_; rintro e w' ⟨rfl, rfl⟩) | (go_at_call 72; refine (implRound_any _ _ ).mono ?_; rintro e w' ⟨rfl, rfl⟩) | (go_at_call 71; refine (implWithin_any _ _ _ _ ).mono ?_; rintro e w' ⟨rfl, rfl⟩) | go_in)
    all_goals
      go_ret2
      exact ⟨io_no HH.out, HB.out⟩
  have HH := hide (show ioP o a r from ⟨amtB_iff.1 ha, ⟨(amtB_iff.1 ho).1, by omega⟩, ratB_iff.1 hr⟩)
  obtain ⟨⟨a0, a1⟩, ⟨o0, o1⟩, ⟨r0, r1⟩⟩ := HH.out
  obtain ⟨p0, p1⟩ := mul_rate a0 (by omega) r0 r1
  by_cases hq : a * r ≤ o * 10000
  · have HQ := hide (decide_eq_true hq)
    go_enter Try.func22, Try.ntmps22
    go_wp2_with fail
    refine (implAmounts2_any w.heap.size o a _ HP.out).mono ?_
    rintro e w' ⟨rfl, rfl⟩
    go_wp2_with (first | (go_at_call 70; refine (implAmount_any _ _ ).mono ?_; rintro e w' ⟨rfl, rfl⟩) | (go_at_call 75; refine (implRate_any _ _ ).mono ?_; rintro e w' ⟨rfl, rfl⟩) | (go_at_call 72; refine (implRound_any _ _ ).mono ?_; rintro e w' ⟨rfl, rfl⟩) | (go_at_call 71; refine (implWithin_any _ _ _ _ ).mono ?_; rintro e w' ⟨rfl, rfl⟩) | go_in)
    go_ret2
    first | exact ⟨io_yes HH.out HQ.out.symm, HB.out⟩ | exact ⟨io_yes HH.out rfl, HB.out⟩
  · have HQ := hide (decide_eq_false hq)
    go_enter Try.func22, Try.ntmps22
    go_wp2_with fail
    refine (implAmounts2_any w.heap.size o a _ HP.out).mono ?_
    rintro e w' ⟨rfl, rfl⟩
    go_wp2_with (first | (go_at_call 70; refine (implAmount_any _ _ ).mono ?_; rintro e w' ⟨rfl, rfl⟩) | (go_at_call 75; refine (implRate_any _ _ ).mono ?_; rintro e w' ⟨rfl, rfl⟩) | (go_at_call 72; refine (implRound_any _ _ ).mono ?_; rintro e w' ⟨rfl, rfl⟩) | (go_at_call 71; refine (implWithin_any _ _ _ _ ).mono ?_; rintro e w' ⟨rfl, rfl⟩) | go_in)
    go_ret2
    first | exact ⟨io_yes HH.out HQ.out.symm, HB.out⟩ | exact ⟨io_yes HH.out rfl, HB.out⟩
def clP (d y a p : Int) : Prop := (0 ≤ d ∧ d ≤ 1000000) ∧ (1 ≤ a ∧ a ≤ 1000000000) ∧ (0 ≤ y ∧ y ≤ a) ∧ (0 ≤ p ∧ p ≤ 1000000000000)
set_option maxHeartbeats 2000000 in
theorem implCreditLimit_any (d : Int) (y : Int) (a : Int) (p : Int) (w : World) :
    Calls Try.prog 21 #[.int .i64 d, .int .i64 y, .int .i64 a, .int .i64 p] w fun e w' => e = .returned (.tuple #[.int .i64 (ifV (clP d y a p) (min p (d * y / a))), .bool (tru (clP d y a p))]) ∧ Below w.heap.size w w' := by
  cases g0 : inB d (0) (1000000)
  · have HH := hide (show ¬ clP d y a p from fun h => by rw [inB_yes (h.1)] at g0; cases g0)
    go_enter Try.func21, Try.ntmps21
    go_wp2_with (first | (go_at_call 70; refine (implAmount_any _ _ ).mono ?_; rintro e w' ⟨rfl, rfl⟩) | (go_at_call 75; refine (implRate_any _ _ ).mono ?_; rintro e w' ⟨rfl, rfl⟩) | (go_at_call 72; refine (implRound_any _ _ ).mono ?_; rintro e w' ⟨rfl, rfl⟩) | (go_at_call 71; refine (implWithin_any _ _ _ _ ).mono ?_; rintro e w' ⟨rfl, rfl⟩) | go_in)
    go_ret2
    exact ⟨ret_no HH.out, Below.refl _ _⟩
  cases g1 : inB a (1) (1000000000)
  · have HH := hide (show ¬ clP d y a p from fun h => by rw [inB_yes (h.2.1)] at g1; cases g1)
    go_enter Try.func21, Try.ntmps21
    go_wp2_with (first | (go_at_call 70; refine (implAmount_any _ _ ).mono ?_; rintro e w' ⟨rfl, rfl⟩) | (go_at_call 75; refine (implRate_any _ _ ).mono ?_; rintro e w' ⟨rfl, rfl⟩) | (go_at_call 72; refine (implRound_any _ _ ).mono ?_; rintro e w' ⟨rfl, rfl⟩) | (go_at_call 71; refine (implWithin_any _ _ _ _ ).mono ?_; rintro e w' ⟨rfl, rfl⟩) | go_in)
    go_ret2
    exact ⟨ret_no HH.out, Below.refl _ _⟩
  cases g2 : inB y (0) (a)
  · have HH := hide (show ¬ clP d y a p from fun h => by rw [inB_yes (h.2.2.1)] at g2; cases g2)
    go_enter Try.func21, Try.ntmps21
    go_wp2_with (first | (go_at_call 70; refine (implAmount_any _ _ ).mono ?_; rintro e w' ⟨rfl, rfl⟩) | (go_at_call 75; refine (implRate_any _ _ ).mono ?_; rintro e w' ⟨rfl, rfl⟩) | (go_at_call 72; refine (implRound_any _ _ ).mono ?_; rintro e w' ⟨rfl, rfl⟩) | (go_at_call 71; refine (implWithin_any _ _ _ _ ).mono ?_; rintro e w' ⟨rfl, rfl⟩) | go_in)
    go_ret2
    exact ⟨ret_no HH.out, Below.refl _ _⟩
  cases g3 : amtB p
  · have HH := hide (show ¬ clP d y a p from fun h => by rw [amtB_yes (h.2.2.2)] at g3; cases g3)
    go_enter Try.func21, Try.ntmps21
    go_wp2_with (first | (go_at_call 70; refine (implAmount_any _ _ ).mono ?_; rintro e w' ⟨rfl, rfl⟩) | (go_at_call 75; refine (implRate_any _ _ ).mono ?_; rintro e w' ⟨rfl, rfl⟩) | (go_at_call 72; refine (implRound_any _ _ ).mono ?_; rintro e w' ⟨rfl, rfl⟩) | (go_at_call 71; refine (implWithin_any _ _ _ _ ).mono ?_; rintro e w' ⟨rfl, rfl⟩) | go_in)
    go_ret2
    exact ⟨ret_no HH.out, Below.refl _ _⟩
  have HH := hide (show clP d y a p from ⟨inB_iff.1 g0, inB_iff.1 g1, inB_iff.1 g2, amtB_iff.1 g3⟩)
  obtain ⟨⟨d0, d1⟩, ⟨a0, a1⟩, ⟨y0, y1⟩, ⟨p0, p1⟩⟩ := HH.out
  obtain ⟨m0, m1⟩ := mul_bd (N := 1000000000) d0 d1 y0 (by omega)
  have hq0 : 0 ≤ d * y / a := Int.ediv_nonneg m0 (by omega)
  have hq1 : d * y / a ≤ d * y := Int.ediv_le_self _ m0
  have hne : ¬ a = 0 := by omega
  obtain ⟨V, hV⟩ : ∃ V : Int, V = min p (d * y / a) := ⟨_, rfl⟩
  have HV := hide hV
  go_enter Try.func21, Try.ntmps21
  go_wp2_with (first | (go_at_call 70; refine (implAmount_any _ _ ).mono ?_; rintro e w' ⟨rfl, rfl⟩) | (go_at_call 75; refine (implRate_any _ _ ).mono ?_; rintro e w' ⟨rfl, rfl⟩) | (go_at_call 72; refine (implRound_any _ _ ).mono ?_; rintro e w' ⟨rfl, rfl⟩) | (go_at_call 71; refine (implWithin_any _ _ _ _ ).mono ?_; rintro e w' ⟨rfl, rfl⟩) | go_in)
  all_goals
    go_ret2
    exact ⟨ret_val HH.out (by omega), Below.refl _ _⟩
end Go.Proofs.Ytjebkagbknmdoaa
