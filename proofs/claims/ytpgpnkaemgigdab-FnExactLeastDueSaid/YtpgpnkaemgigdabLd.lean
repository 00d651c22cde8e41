/- LeastDue, by both. -/
import Derived.Test.YtpgpnkaemgigdabDi
namespace Go.Proofs.Ytpgpnkaemgigdab
open Go.RowKit Go.Dues
theorem prod_bd2 {start rate cents : Int} (h0 : 0 ≤ start) (h1 : start ≤ cents) (h2 : cents ≤ 1000000000000) (hr : 0 ≤ rate ∧ rate ≤ 10000) : 0 ≤ (cents - start) * rate ∧ (cents - start) * rate ≤ 10000000000000000 := by
  have := mul_bd (a := cents - start) (b := rate) (M := 1000000000000) (N := 10000) (by omega) (by omega) hr.1 hr.2
  omega
def flatV (rate free v r : Int) : Int := rnd ((v - free) * rate) 10000 r
noncomputable def leastV (x y : Nat → Int) (n : Nat) (rate free v r : Int) : Int := if v ≤ free then dueV x y n v r else if flatV rate free v r ≤ dueV x y n v r then dueV x y n v r else flatV rate free v r
def leastP (x y : Nat → Int) (n m : Nat) (rate free v r : Int) : Prop := canP x y n m v r ∧ (0 ≤ rate ∧ rate ≤ 10000) ∧ (0 ≤ free ∧ free ≤ 1000000000000)
theorem rnd_zero {r : Int} : rnd 0 10000 r = 0 := by unfold rnd; split <;> (try split) <;> (try split) <;> omega
theorem implDueOf_yes (A A' : Option Addr) (n c n' c' : Nat) (x y : Nat → Int) (v r : Int) (w : World) (hn : n ≤ maxLen) (hn' : n' ≤ maxLen)
    (hs : SL w A n (fun j => .int .i64 (x j))) (hs' : SL w A' n' (fun j => .int .i64 (y j))) (h : canP x y n n' v r) :
    Calls Try.prog 52 #[.agg #[.slice A n c, .slice A' n' c'], .int .i64 v, .int .i64 r] w fun e w' => e = .returned (.tuple #[.int .i64 (dueV x y n v r), .bool true]) ∧ Below w.heap.size w w' :=
  (implDueOf_any A A' n c n' c' x y v r w hn hn' hs hs').mono fun _ _ ⟨he, hb⟩ => ⟨he.trans (ret_yes h).symm, hb⟩
theorem implDueOf_no (A A' : Option Addr) (n c n' c' : Nat) (x y : Nat → Int) (v r : Int) (w : World) (hn : n ≤ maxLen) (hn' : n' ≤ maxLen)
    (hs : SL w A n (fun j => .int .i64 (x j))) (hs' : SL w A' n' (fun j => .int .i64 (y j))) (h : ¬ canP x y n n' v r) :
    Calls Try.prog 52 #[.agg #[.slice A n c, .slice A' n' c'], .int .i64 v, .int .i64 r] w fun e w' => e = .returned (.tuple #[.int .i64 0, .bool false]) ∧ Below w.heap.size w w' :=
  (implDueOf_any A A' n c n' c' x y v r w hn hn' hs hs').mono fun _ _ ⟨he, hb⟩ => ⟨he.trans (ret_no h).symm, hb⟩

set_option maxHeartbeats 2000000 in
theorem specLeastDue_any (A A' : Option Addr) (n c n' c' : Nat) (x y : Nat → Int) (rate free v r : Int) (w : World) (hn : n ≤ maxLen) (hn' : n' ≤ maxLen)
    (hs : SL w A n (fun j => .int .i64 (x j))) (hs' : SL w A' n' (fun j => .int .i64 (y j))) :
    Calls Try.prog 14 #[.agg #[.slice A n c, .slice A' n' c'], .int .i64 rate, .int .i64 free, .int .i64 v, .int .i64 r] w fun e w' => e = .returned (.tuple #[.int .i64 (ifV (leastP x y n n' rate free v r) (leastV x y n rate free v r)), .bool (tru (leastP x y n n' rate free v r))]) ∧ Below w.heap.size w w' := by
  have HB := hide ((Below.refl w.heap.size w).alloc (Nat.le_refl _) (.cells #[.slice A n c, .slice A' n' c'] 28))
  have HS := hide (hs.below HB.out)
  have HS' := hide (hs'.below HB.out)
  have HC := hide (specCan_any w.heap.size A A' n c n' c' x y v r (w.alloc (.cells #[.slice A n c, .slice A' n' c'] 28)) hn hn' (by simp) (by simp) HS.out HS'.out)
  clear hs hs'
  by_cases hcan : canP x y n n' v r
  · have HN := hide hcan
    have hct := tru_yes hcan
    cases hra : ratB rate
    · have HH := hide (show ¬ leastP x y n n' rate free v r from fun h => by rw [ratB_yes h.2.1] at hra; cases hra)
      clear hcan
      go_enter Try.func14, Try.ntmps14
      go_wp2_with fail
      refine HC.out.mono ?_
      rintro e w' ⟨rfl, q, rfl⟩
      go_wp2_with fail
      refine (specRate_any _ _).mono ?_
      rintro e w' ⟨rfl, rfl⟩
      go_wp2_with fail
      all_goals
        go_ret2
        exact ⟨ret_no HH.out, bel_drewN HB.out _⟩
    cases hfr : amtB free
    · have HH := hide (show ¬ leastP x y n n' rate free v r from fun h => by rw [amtB_yes h.2.2] at hfr; cases hfr)
      clear hcan
      go_enter Try.func14, Try.ntmps14
      go_wp2_with fail
      refine HC.out.mono ?_
      rintro e w' ⟨rfl, q, rfl⟩
      go_wp2_with fail
      refine (specRate_any _ _).mono ?_
      rintro e w' ⟨rfl, rfl⟩
      go_wp2_with fail
      refine (specCents_any _ _).mono ?_
      rintro e w' ⟨rfl, rfl⟩
      go_wp2_with fail
      all_goals
        go_ret2
        exact ⟨ret_no HH.out, bel_drewN HB.out _⟩
    have HH := hide (show leastP x y n n' rate free v r from ⟨hcan, ratB_iff.1 hra, amtB_iff.1 hfr⟩)
    obtain ⟨d0, d1⟩ := dueV_bd (r := r) hcan.1 hcan.2.1.1
    obtain ⟨v0, v1⟩ := hcan.2.1
    obtain ⟨f0, f1⟩ := amtB_iff.1 hfr
    have HR := hide hcan.2.2
    have hrr := ratB_iff.1 hra
    clear hcan
    by_cases hle : v ≤ free
    · have HV := hide (show dueV x y n v r = leastV x y n rate free v r by unfold leastV; rw [if_pos hle])
      clear hrr
      go_enter Try.func14, Try.ntmps14
      go_wp2_with fail
      refine HC.out.mono ?_
      rintro e w' ⟨rfl, q, rfl⟩
      go_wp2_with fail
      refine (specRate_any _ _).mono ?_
      rintro e w' ⟨rfl, rfl⟩
      go_wp2_with fail
      refine (specCents_any _ _).mono ?_
      rintro e w' ⟨rfl, rfl⟩
      go_wp2_with fail
      refine (specDue_any w.heap.size A A' n c n' c' x y v r _ (by simp) (by simp) (HS.out.drewN q) (HS'.out.drewN q) HN.out).mono ?_
      rintro e w' ⟨rfl, q2, rfl⟩
      go_wp2_with fail
      refine (specMaxB_any _ _ _ (by omega)).mono ?_
      rintro e w' ⟨rfl, rfl⟩
      go_wp2_with fail
      all_goals
        go_ret2
        exact ⟨ret_val HH.out HV.out, bel_drewN HB.out _⟩
    · obtain ⟨p0, p1⟩ := prod_bd2 (rate := rate) (start := free) (cents := v) f0 (by omega) v1 hrr
      have rb := rnd_bounds (a := (v - free) * rate) (b := 10000) (r := r)
      have rb0 : 0 ≤ rnd ((v - free) * rate) 10000 r := by omega
      clear hrr rb
      by_cases hfl : flatV rate free v r ≤ dueV x y n v r
      · have HV := hide (show dueV x y n v r = leastV x y n rate free v r by unfold leastV; rw [if_neg hle, if_pos hfl])
        have hfl2 : rnd ((v - free) * rate) 10000 r ≤ dueV x y n v r := hfl
        skip
        clear hfl
        go_enter Try.func14, Try.ntmps14
        go_wp2_with fail
        refine HC.out.mono ?_
        rintro e w' ⟨rfl, q, rfl⟩
        go_wp2_with fail
        refine (specRate_any _ _).mono ?_
        rintro e w' ⟨rfl, rfl⟩
        go_wp2_with fail
        refine (specCents_any _ _).mono ?_
        rintro e w' ⟨rfl, rfl⟩
        go_wp2_with fail
        refine (specRound_any _ _ _ _ p0 (by omega) (by omega) (by omega) HR.out).mono ?_
        rintro e w' ⟨rfl, rfl⟩
        go_wp2_with fail
        refine (specDue_any w.heap.size A A' n c n' c' x y v r _ (by simp) (by simp) (HS.out.drewN q) (HS'.out.drewN q) HN.out).mono ?_
        rintro e w' ⟨rfl, q2, rfl⟩
        go_wp2_with fail
        refine (specMaxB_any _ _ _ (by omega)).mono ?_
        rintro e w' ⟨rfl, rfl⟩
        go_wp2_with fail
        all_goals
          go_ret2
          first | exact ⟨ret_val HH.out HV.out, bel_drewN HB.out _⟩ | exact ⟨ret_val HH.out (by have := HV.out; omega), bel_drewN HB.out _⟩
      · have HV := hide (show rnd ((v - free) * rate) 10000 r = leastV x y n rate free v r by unfold leastV; rw [if_neg hle, if_neg hfl]; rfl)
        have hfl2 : dueV x y n v r < rnd ((v - free) * rate) 10000 r := by unfold flatV at hfl; omega
        skip
        clear hfl
        go_enter Try.func14, Try.ntmps14
        go_wp2_with fail
        refine HC.out.mono ?_
        rintro e w' ⟨rfl, q, rfl⟩
        go_wp2_with fail
        refine (specRate_any _ _).mono ?_
        rintro e w' ⟨rfl, rfl⟩
        go_wp2_with fail
        refine (specCents_any _ _).mono ?_
        rintro e w' ⟨rfl, rfl⟩
        go_wp2_with fail
        refine (specRound_any _ _ _ _ p0 (by omega) (by omega) (by omega) HR.out).mono ?_
        rintro e w' ⟨rfl, rfl⟩
        go_wp2_with fail
        refine (specDue_any w.heap.size A A' n c n' c' x y v r _ (by simp) (by simp) (HS.out.drewN q) (HS'.out.drewN q) HN.out).mono ?_
        rintro e w' ⟨rfl, q2, rfl⟩
        go_wp2_with fail
        refine (specMaxA_any _ _ _ (by omega)).mono ?_
        rintro e w' ⟨rfl, rfl⟩
        go_wp2_with fail
        all_goals
          go_ret2
          first | exact ⟨ret_val HH.out HV.out, bel_drewN HB.out _⟩ | exact ⟨ret_val HH.out (by have := HV.out; omega), bel_drewN HB.out _⟩
  · have HN := hide hcan
    have hct := tru_no hcan
    have HH := hide (show ¬ leastP x y n n' rate free v r from fun h => hcan h.1)
    clear hcan
    go_enter Try.func14, Try.ntmps14
    go_wp2_with fail
    refine HC.out.mono ?_
    rintro e w' ⟨rfl, q, rfl⟩
    go_wp2_with fail
    all_goals
      go_ret2
      exact ⟨ret_no HH.out, bel_drewN HB.out _⟩

set_option maxHeartbeats 2000000 in
theorem implLeastDue_any (A A' : Option Addr) (n c n' c' : Nat) (x y : Nat → Int) (rate free v r : Int) (w : World) (hn : n ≤ maxLen) (hn' : n' ≤ maxLen)
    (hs : SL w A n (fun j => .int .i64 (x j))) (hs' : SL w A' n' (fun j => .int .i64 (y j))) :
    Calls Try.prog 16 #[.agg #[.slice A n c, .slice A' n' c'], .int .i64 rate, .int .i64 free, .int .i64 v, .int .i64 r] w fun e w' => e = .returned (.tuple #[.int .i64 (ifV (leastP x y n n' rate free v r) (leastV x y n rate free v r)), .bool (tru (leastP x y n n' rate free v r))]) ∧ Below w.heap.size w w' := by
  have HB := hide ((Below.refl w.heap.size w).alloc (Nat.le_refl _) (.cells #[.slice A n c, .slice A' n' c'] 28))
  have HS := hide (hs.below HB.out)
  have HS' := hide (hs'.below HB.out)
  clear hs hs'
  by_cases hcan : canP x y n n' v r
  · have HN := hide hcan
    have hct := tru_yes hcan
    cases hra : ratB rate
    · have HH := hide (show ¬ leastP x y n n' rate free v r from fun h => by rw [ratB_yes h.2.1] at hra; cases hra)
      clear hcan
      go_enter Try.func16, Try.ntmps16
      go_wp2_with fail
      refine (implDueOf_yes A A' n c n' c' x y v r _ hn hn' HS.out HS'.out HN.out).mono ?_
      rintro e w1 ⟨rfl, hb⟩
      have HB1 := hide (below_left HB.out hb (by simp))
      clear hb
      go_wp2_with fail
      refine (implRate_any _ _).mono ?_
      rintro e w' ⟨rfl, rfl⟩
      go_wp2_with fail
      all_goals
        go_ret2
        exact ⟨ret_no HH.out, HB1.out⟩
    cases hfr : amtB free
    · have HH := hide (show ¬ leastP x y n n' rate free v r from fun h => by rw [amtB_yes h.2.2] at hfr; cases hfr)
      clear hcan
      go_enter Try.func16, Try.ntmps16
      go_wp2_with fail
      refine (implDueOf_yes A A' n c n' c' x y v r _ hn hn' HS.out HS'.out HN.out).mono ?_
      rintro e w1 ⟨rfl, hb⟩
      have HB1 := hide (below_left HB.out hb (by simp))
      clear hb
      go_wp2_with fail
      refine (implRate_any _ _).mono ?_
      rintro e w' ⟨rfl, rfl⟩
      go_wp2_with fail
      refine (implAmount_any _ _).mono ?_
      rintro e w' ⟨rfl, rfl⟩
      go_wp2_with fail
      all_goals
        go_ret2
        exact ⟨ret_no HH.out, HB1.out⟩
    have HH := hide (show leastP x y n n' rate free v r from ⟨hcan, ratB_iff.1 hra, amtB_iff.1 hfr⟩)
    obtain ⟨d0, d1⟩ := dueV_bd (r := r) hcan.1 hcan.2.1.1
    obtain ⟨v0, v1⟩ := hcan.2.1
    obtain ⟨f0, f1⟩ := amtB_iff.1 hfr
    have HR := hide hcan.2.2
    have hrr := ratB_iff.1 hra
    clear hcan
    by_cases hle : v ≤ free
    · have HV := hide (show dueV x y n v r = leastV x y n rate free v r by unfold leastV; rw [if_pos hle])
      by_cases hlt : v < free
      · clear hrr
        go_enter Try.func16, Try.ntmps16
        go_wp2_with fail
        refine (implDueOf_yes A A' n c n' c' x y v r _ hn hn' HS.out HS'.out HN.out).mono ?_
        rintro e w1 ⟨rfl, hb⟩
        have HB1 := hide (below_left HB.out hb (by simp))
        clear hb
        go_wp2_with fail
        refine (implRate_any _ _).mono ?_
        rintro e w' ⟨rfl, rfl⟩
        go_wp2_with fail
        refine (implAmount_any _ _).mono ?_
        rintro e w' ⟨rfl, rfl⟩
        go_wp2_with fail
        all_goals
          go_ret2
          exact ⟨ret_val HH.out HV.out, HB1.out⟩
      · obtain ⟨p0, p1⟩ := prod_bd2 (rate := rate) (start := free) (cents := v) f0 (by omega) v1 hrr
        have hz : rnd ((v - free) * rate) 10000 r = 0 := by rw [show v - free = 0 by omega, Int.zero_mul]; exact rnd_zero
        have hmx : max (dueV x y n v r) (rnd ((v - free) * rate) 10000 r) = dueV x y n v r := by omega
        have HZ := hide hz
        have hzl : rnd ((v - free) * rate) 10000 r ≤ dueV x y n v r := by omega
        clear hrr hz
        go_enter Try.func16, Try.ntmps16
        go_wp2_with fail
        refine (implDueOf_yes A A' n c n' c' x y v r _ hn hn' HS.out HS'.out HN.out).mono ?_
        rintro e w1 ⟨rfl, hb⟩
        have HB1 := hide (below_left HB.out hb (by simp))
        clear hb
        go_wp2_with fail
        refine (implRate_any _ _).mono ?_
        rintro e w' ⟨rfl, rfl⟩
        go_wp2_with fail
        refine (implAmount_any _ _).mono ?_
        rintro e w' ⟨rfl, rfl⟩
        go_wp2_with fail
        refine (implRounded_any _ _ _ _ p0 (by omega) (by omega) (by omega) HR.out).mono ?_
        rintro e w' ⟨rfl, q, rfl⟩
        go_wp2_with fail
        all_goals
          go_ret2
          first | exact ⟨ret_val HH.out HV.out, bel_drewN HB1.out _⟩ | exact ⟨ret_val HH.out (by have := HV.out; omega), bel_drewN HB1.out _⟩
    · obtain ⟨p0, p1⟩ := prod_bd2 (rate := rate) (start := free) (cents := v) f0 (by omega) v1 hrr
      have rb := rnd_bounds (a := (v - free) * rate) (b := 10000) (r := r)
      have rb0 : 0 ≤ rnd ((v - free) * rate) 10000 r := by omega
      clear hrr rb
      by_cases hfl : flatV rate free v r ≤ dueV x y n v r
      · have HV := hide (show dueV x y n v r = leastV x y n rate free v r by unfold leastV; rw [if_neg hle, if_pos hfl])
        have hfl2 : rnd ((v - free) * rate) 10000 r ≤ dueV x y n v r := hfl
        have hmx : max (dueV x y n v r) (rnd ((v - free) * rate) 10000 r) = dueV x y n v r := by omega
        clear hfl
        go_enter Try.func16, Try.ntmps16
        go_wp2_with fail
        refine (implDueOf_yes A A' n c n' c' x y v r _ hn hn' HS.out HS'.out HN.out).mono ?_
        rintro e w1 ⟨rfl, hb⟩
        have HB1 := hide (below_left HB.out hb (by simp))
        clear hb
        go_wp2_with fail
        refine (implRate_any _ _).mono ?_
        rintro e w' ⟨rfl, rfl⟩
        go_wp2_with fail
        refine (implAmount_any _ _).mono ?_
        rintro e w' ⟨rfl, rfl⟩
        go_wp2_with fail
        refine (implRounded_any _ _ _ _ p0 (by omega) (by omega) (by omega) HR.out).mono ?_
        rintro e w' ⟨rfl, q, rfl⟩
        go_wp2_with fail
        all_goals
          go_ret2
          first | exact ⟨ret_val HH.out HV.out, bel_drewN HB1.out _⟩ | exact ⟨ret_val HH.out (by have := HV.out; omega), bel_drewN HB1.out _⟩
      · have HV := hide (show rnd ((v - free) * rate) 10000 r = leastV x y n rate free v r by unfold leastV; rw [if_neg hle, if_neg hfl]; rfl)
        have hfl2 : dueV x y n v r < rnd ((v - free) * rate) 10000 r := by unfold flatV at hfl; omega
        have hmx : max (dueV x y n v r) (rnd ((v - free) * rate) 10000 r) = rnd ((v - free) * rate) 10000 r := by omega
        clear hfl
        go_enter Try.func16, Try.ntmps16
        go_wp2_with fail
        refine (implDueOf_yes A A' n c n' c' x y v r _ hn hn' HS.out HS'.out HN.out).mono ?_
        rintro e w1 ⟨rfl, hb⟩
        have HB1 := hide (below_left HB.out hb (by simp))
        clear hb
        go_wp2_with fail
        refine (implRate_any _ _).mono ?_
        rintro e w' ⟨rfl, rfl⟩
        go_wp2_with fail
        refine (implAmount_any _ _).mono ?_
        rintro e w' ⟨rfl, rfl⟩
        go_wp2_with fail
        refine (implRounded_any _ _ _ _ p0 (by omega) (by omega) (by omega) HR.out).mono ?_
        rintro e w' ⟨rfl, q, rfl⟩
        go_wp2_with fail
        all_goals
          go_ret2
          first | exact ⟨ret_val HH.out HV.out, bel_drewN HB1.out _⟩ | exact ⟨ret_val HH.out (by have := HV.out; omega), bel_drewN HB1.out _⟩
  · have HN := hide hcan
    have hct := tru_no hcan
    have HH := hide (show ¬ leastP x y n n' rate free v r from fun h => hcan h.1)
    clear hcan
    go_enter Try.func16, Try.ntmps16
    go_wp2_with fail
    refine (implDueOf_no A A' n c n' c' x y v r _ hn hn' HS.out HS'.out HN.out).mono ?_
    rintro e w1 ⟨rfl, hb⟩
    have HB1 := hide (below_left HB.out hb (by simp))
    clear hb
    go_wp2_with fail
    all_goals
      go_ret2
      exact ⟨ret_no HH.out, HB1.out⟩
end Go.Proofs.Ytpgpnkaemgigdab
