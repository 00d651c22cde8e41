/- Tapers, by both. -/
import Derived.Test.YtjebkagbknmdoaaAm
import Derived.Test.YtjebkagbknmdoaaRd
namespace Go.Proofs.Ytjebkagbknmdoaa
open Go.RowKit Go.Dues
/-- what a taper takes -/
def lossV (start rate cents : Int) : Int := rnd ((cents - start) * rate) 10000 3
def tapV (full start rate cents : Int) : Int := if cents ≤ start then full else if full < lossV start rate cents then 0 else full - lossV start rate cents
def tapP (full start rate cents : Int) : Prop := (0 ≤ full ∧ full ≤ 1000000000000) ∧ (0 ≤ start ∧ start ≤ 1000000000000) ∧ (0 ≤ rate ∧ rate ≤ 10000) ∧ (0 ≤ cents ∧ cents ≤ 1000000000000)
theorem prod_bd {start rate cents : Int} (h0 : 0 ≤ start) (h1 : start < cents) (h2 : cents ≤ 1000000000000) (hr : 0 ≤ rate ∧ rate ≤ 10000) : 0 ≤ (cents - start) * rate ∧ (cents - start) * rate ≤ 10000000000000000 := by
  have := mul_bd (a := cents - start) (b := rate) (M := 1000000000000) (N := 10000) (by omega) (by omega) hr.1 hr.2
  omega
theorem lossV_bd {start rate cents : Int} (h0 : 0 ≤ start) (h1 : start < cents) (h2 : cents ≤ 1000000000000) (hr : 0 ≤ rate ∧ rate ≤ 10000) : 0 ≤ lossV start rate cents ∧ lossV start rate cents ≤ 1000000000001 := by
  have hp := prod_bd h0 h1 h2 hr
  have := rnd_bounds (a := (cents - start) * rate) (b := 10000) (r := 3)
  unfold lossV
  omega
theorem tapV_bd {full start rate cents : Int} (h : tapP full start rate cents) : 0 ≤ tapV full start rate cents ∧ tapV full start rate cents ≤ full := by
  obtain ⟨hf, hs, hr, hc⟩ := h
  unfold tapV
  split
  · omega
  · have := lossV_bd hs.1 (show start < cents by omega) hc.2 hr
    split <;> omega
/-- full, start and rate tell a taper -/
def tap3B (full start rate : Int) : Bool := amtB full && (amtB start && ratB rate)
theorem tap3B_iff {full start rate : Int} : tap3B full start rate = true ↔ (0 ≤ full ∧ full ≤ 1000000000000) ∧ (0 ≤ start ∧ start ≤ 1000000000000) ∧ (0 ≤ rate ∧ rate ≤ 10000) := by
  unfold tap3B
  rw [Bool.and_eq_true, Bool.and_eq_true, amtB_iff, amtB_iff, ratB_iff]


set_option maxHeartbeats 1000000 in
theorem implTaperOf_any (full start rate cents : Int) (w : World) :
    Calls Try.prog 82 #[.int .i64 full, .int .i64 start, .int .i64 rate, .int .i64 cents] w fun e w' => e = .returned (.tuple #[.int .i64 (ifV (tapP full start rate cents) (tapV full start rate cents)), .bool (tru (tapP full start rate cents))]) ∧ Below w.heap.size w w' := by
  have HP := hide (blocks1 w (.cells #[.int .i64 full, .int .i64 start, .int .i64 cents] 2))
  have HB := hide ((Below.refl w.heap.size w).alloc (Nat.le_refl _) (.cells #[.int .i64 full, .int .i64 start, .int .i64 cents] 2))
  cases hf : amtB full
  · have HH := hide (show ¬ tapP full start rate cents from fun h => by rw [amtB_yes h.1] at hf; cases hf)
    go_enter Try.func82, Try.ntmps82
    go_wp2_with fail
    refine (implAmounts3_any w.heap.size full start cents _ HP.out).mono ?_
    rintro e w' ⟨rfl, rfl⟩
    go_wp2
    all_goals
      go_ret2
      exact ⟨ret_no HH.out, HB.out⟩
  cases hs : amtB start
  · have HH := hide (show ¬ tapP full start rate cents from fun h => by rw [amtB_yes h.2.1] at hs; cases hs)
    go_enter Try.func82, Try.ntmps82
    go_wp2_with fail
    refine (implAmounts3_any w.heap.size full start cents _ HP.out).mono ?_
    rintro e w' ⟨rfl, rfl⟩
    go_wp2
    all_goals
      go_ret2
      exact ⟨ret_no HH.out, HB.out⟩
  cases hc : amtB cents
  · have HH := hide (show ¬ tapP full start rate cents from fun h => by rw [amtB_yes h.2.2.2] at hc; cases hc)
    go_enter Try.func82, Try.ntmps82
    go_wp2_with fail
    refine (implAmounts3_any w.heap.size full start cents _ HP.out).mono ?_
    rintro e w' ⟨rfl, rfl⟩
    go_wp2
    all_goals
      go_ret2
      exact ⟨ret_no HH.out, HB.out⟩
  cases hr : ratB rate
  · have HH := hide (show ¬ tapP full start rate cents from fun h => by rw [ratB_yes h.2.2.1] at hr; cases hr)
    go_enter Try.func82, Try.ntmps82
    go_wp2_with fail
    refine (implAmounts3_any w.heap.size full start cents _ HP.out).mono ?_
    rintro e w' ⟨rfl, rfl⟩
    go_wp2_with (go_at_call 75; refine (implRate_any _ _).mono ?_; rintro e w' ⟨rfl, rfl⟩)
    all_goals
      go_ret2
      exact ⟨ret_no HH.out, HB.out⟩
  have HH := hide (show tapP full start rate cents from ⟨amtB_iff.1 hf, amtB_iff.1 hs, ratB_iff.1 hr, amtB_iff.1 hc⟩)
  obtain ⟨⟨f0, f1⟩, ⟨s0, s1⟩, hrr, ⟨c0, c1⟩⟩ := HH.out
  by_cases hcs : cents ≤ start
  · have HV := hide (show full = tapV full start rate cents by unfold tapV; rw [if_pos hcs])
    go_enter Try.func82, Try.ntmps82
    go_wp2_with fail
    refine (implAmounts3_any w.heap.size full start cents _ HP.out).mono ?_
    rintro e w' ⟨rfl, rfl⟩
    go_wp2_with (go_at_call 75; refine (implRate_any _ _).mono ?_; rintro e w' ⟨rfl, rfl⟩)
    all_goals
      go_ret2
      exact ⟨ret_val HH.out HV.out, HB.out⟩
  · obtain ⟨p0, p1⟩ := prod_bd s0 (show start < cents by omega) c1 hrr
    obtain ⟨l0, l1⟩ := lossV_bd s0 (show start < cents by omega) c1 hrr
    unfold lossV at l0 l1
    have HRR := hide hrr
    clear hrr
    by_cases hff : full < lossV start rate cents
    · have HV := hide (show (0 : Int) = tapV full start rate cents by unfold tapV; rw [if_neg hcs, if_pos hff])
      have hmx : max 0 (full - rnd ((cents - start) * rate) 10000 3) = 0 := by unfold lossV at hff; omega
      clear hff
      go_enter Try.func82, Try.ntmps82
      go_wp2_with fail
      refine (implAmounts3_any w.heap.size full start cents _ HP.out).mono ?_
      rintro e w' ⟨rfl, rfl⟩
      go_wp2_with (first | (go_at_call 75; refine (implRate_any _ _).mono ?_; rintro e w' ⟨rfl, rfl⟩) | (go_at_call 74; refine (implRounded_any _ _ _ _ p0 (by omega) (by omega) (by omega) (by omega)).mono ?_; rintro e w' ⟨rfl, q, rfl⟩))
      all_goals
        go_ret2
        exact ⟨ret_val HH.out HV.out, bel_drewN HB.out _⟩
    · have HV := hide (show full - rnd ((cents - start) * rate) 10000 3 = tapV full start rate cents by unfold tapV; rw [if_neg hcs, if_neg hff]; rfl)
      have hmx : max 0 (full - rnd ((cents - start) * rate) 10000 3) = full - rnd ((cents - start) * rate) 10000 3 := by unfold lossV at hff; omega
      have hm : 0 ≤ full - rnd ((cents - start) * rate) 10000 3 := by unfold lossV at hff; omega
      clear hff
      go_enter Try.func82, Try.ntmps82
      go_wp2_with fail
      refine (implAmounts3_any w.heap.size full start cents _ HP.out).mono ?_
      rintro e w' ⟨rfl, rfl⟩
      go_wp2_with (first | (go_at_call 75; refine (implRate_any _ _).mono ?_; rintro e w' ⟨rfl, rfl⟩) | (go_at_call 74; refine (implRounded_any _ _ _ _ p0 (by omega) (by omega) (by omega) (by omega)).mono ?_; rintro e w' ⟨rfl, q, rfl⟩))
      all_goals
        go_ret2
        first | exact ⟨ret_val HH.out HV.out, bel_drewN HB.out _⟩ | exact ⟨ret_val HH.out (by have := HV.out; omega), bel_drewN HB.out _⟩
end Go.Proofs.Ytjebkagbknmdoaa
