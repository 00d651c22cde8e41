/- Where tapers end; nets and rates with tapers; by both. -/
import Derived.Test.YtpgpnkaemgigdaaTp
import Derived.Test.YtpgpnkaemgigdaaNi
import Derived.Test.YtpgpnkaemgigdaaRt
namespace Go.Proofs.Ytpgpnkaemgigdaa
open Go.RowKit Go.Dues
def endV (full start rate : Int) : Int := start + (full - 1) * 10000 / rate + 1
def endP (full start rate : Int) : Prop := ((0 ≤ full ∧ full ≤ 1000000000000) ∧ (0 ≤ start ∧ start ≤ 1000000000000) ∧ (0 ≤ rate ∧ rate ≤ 10000)) ∧ (full = 0 ∨ (¬ rate = 0 ∧ 0 ≤ endV full start rate ∧ endV full start rate ≤ 1000000000000))
noncomputable def endW (full start rate : Int) : Int := if full = 0 then 0 else endV full start rate
set_option maxHeartbeats 1000000 in
theorem specTaperEnd_any (full start rate : Int) (w : World) :
    Calls Try.prog 36 #[.int .i64 full, .int .i64 start, .int .i64 rate] w fun e w' => e = .returned (.tuple #[.int .i64 (ifV (endP full start rate) (endW full start rate)), .bool (tru (endP full start rate))]) ∧ Below w.heap.size w w' := by
  cases ht : tap3B full start rate
  · have HH := hide (show ¬ endP full start rate from fun h => by rw [tap3B_iff.2 h.1] at ht; cases ht)
    go_enter Try.func36, Try.ntmps36
    go_wp2_with (first | (go_at_call 71; refine (specTapers_any _ _ _ _).mono ?_; rintro e w' ⟨rfl, rfl⟩) | (go_at_call 62; refine (specCents_any _ _).mono ?_; rintro e w' ⟨rfl, rfl⟩))
    go_ret2
    exact ⟨ret_no HH.out, Below.refl _ _⟩
  have HT := hide (tap3B_iff.1 ht)
  obtain ⟨⟨f0, f1⟩, ⟨s0, s1⟩, r0, r1⟩ := HT.out
  by_cases hz : full = 0
  · have hzb : (full == 0) = true := by simpa using hz
    have HH := hide (show endP full start rate from ⟨HT.out, .inl hz⟩)
    have HV := hide (show (0 : Int) = endW full start rate by unfold endW; rw [if_pos hz])
    clear hz
    go_enter Try.func36, Try.ntmps36
    go_wp2_with (first | (go_at_call 71; refine (specTapers_any _ _ _ _).mono ?_; rintro e w' ⟨rfl, rfl⟩) | (go_at_call 62; refine (specCents_any _ _).mono ?_; rintro e w' ⟨rfl, rfl⟩))
    go_ret2
    exact ⟨ret_val HH.out HV.out, Below.refl _ _⟩
  have hzb : (full == 0) = false := by simpa using hz
  by_cases hrz : rate = 0
  · have hrb : (rate == 0) = true := by simpa using hrz
    have HH := hide (show ¬ endP full start rate from fun h => by rcases h.2 with h | h; exact hz h; exact h.1 hrz)
    clear hz hrz
    go_enter Try.func36, Try.ntmps36
    go_wp2_with (first | (go_at_call 71; refine (specTapers_any _ _ _ _).mono ?_; rintro e w' ⟨rfl, rfl⟩) | (go_at_call 62; refine (specCents_any _ _).mono ?_; rintro e w' ⟨rfl, rfl⟩))
    go_ret2
    exact ⟨ret_no HH.out, Below.refl _ _⟩
  have hrb : (rate == 0) = false := by simpa using hrz
  have hq0 : 0 ≤ (full - 1) * 10000 / rate := Int.ediv_nonneg (by omega) (by omega)
  have hq1 : (full - 1) * 10000 / rate ≤ (full - 1) * 10000 := Int.ediv_le_self _ (by omega)
  have hn0 : 0 ≤ (full - 1) * 10000 := by omega
  have HE := hide (show endV full start rate = start + (full - 1) * 10000 / rate + 1 from rfl)
  have HV := hide (show start + (full - 1) * 10000 / rate + 1 = endW full start rate by unfold endW; rw [if_neg hz]; rfl)
  cases ha : amtB (start + (full - 1) * 10000 / rate + 1)
  · have HH := hide (show ¬ endP full start rate from fun h => by
      rcases h.2 with h | h
      · exact hz h
      · rw [HE.out] at h; rw [amtB_yes h.2] at ha; cases ha)
    clear hz
    go_enter Try.func36, Try.ntmps36
    go_wp2_with (first | (go_at_call 71; refine (specTapers_any _ _ _ _).mono ?_; rintro e w' ⟨rfl, rfl⟩) | (go_at_call 62; refine (specCents_any _ _).mono ?_; rintro e w' ⟨rfl, rfl⟩))
    go_ret2
    exact ⟨ret_no HH.out, Below.refl _ _⟩
  · have HH := hide (show endP full start rate from ⟨HT.out, .inr ⟨hrz, by rw [HE.out]; exact amtB_iff.1 ha⟩⟩)
    clear hz
    go_enter Try.func36, Try.ntmps36
    go_wp2_with (first | (go_at_call 71; refine (specTapers_any _ _ _ _).mono ?_; rintro e w' ⟨rfl, rfl⟩) | (go_at_call 62; refine (specCents_any _ _).mono ?_; rintro e w' ⟨rfl, rfl⟩))
    go_ret2
    exact ⟨ret_val HH.out HV.out, Below.refl _ _⟩
set_option maxHeartbeats 1000000 in
theorem implTaperEnd_any (full start rate : Int) (w : World) :
    Calls Try.prog 37 #[.int .i64 full, .int .i64 start, .int .i64 rate] w fun e w' => e = .returned (.tuple #[.int .i64 (ifV (endP full start rate) (endW full start rate)), .bool (tru (endP full start rate))]) ∧ Below w.heap.size w w' := by
  have HP := hide (blocks1 w (.cells #[.int .i64 full, .int .i64 start] 2))
  have HB := hide ((Below.refl w.heap.size w).alloc (Nat.le_refl _) (.cells #[.int .i64 full, .int .i64 start] 2))
  cases hf : amtB full
  · have HH := hide (show ¬ endP full start rate from fun h => by rw [amtB_yes h.1.1] at hf; cases hf)
    go_enter Try.func37, Try.ntmps37
    go_wp2_with fail
    refine (implAmounts2_any w.heap.size full start _ HP.out).mono ?_
    rintro e w' ⟨rfl, rfl⟩
    go_wp2_with (first | (go_at_call 48; refine (implRate_any _ _).mono ?_; rintro e w' ⟨rfl, rfl⟩) | (go_at_call 64; refine (implAmount_any _ _).mono ?_; rintro e w' ⟨rfl, rfl⟩))
    go_ret2
    exact ⟨ret_no HH.out, HB.out⟩
  cases hs : amtB start
  · have HH := hide (show ¬ endP full start rate from fun h => by rw [amtB_yes h.1.2.1] at hs; cases hs)
    go_enter Try.func37, Try.ntmps37
    go_wp2_with fail
    refine (implAmounts2_any w.heap.size full start _ HP.out).mono ?_
    rintro e w' ⟨rfl, rfl⟩
    go_wp2_with (first | (go_at_call 48; refine (implRate_any _ _).mono ?_; rintro e w' ⟨rfl, rfl⟩) | (go_at_call 64; refine (implAmount_any _ _).mono ?_; rintro e w' ⟨rfl, rfl⟩))
    go_ret2
    exact ⟨ret_no HH.out, HB.out⟩
  cases hr : ratB rate
  · have HH := hide (show ¬ endP full start rate from fun h => by rw [ratB_yes h.1.2.2] at hr; cases hr)
    go_enter Try.func37, Try.ntmps37
    go_wp2_with fail
    refine (implAmounts2_any w.heap.size full start _ HP.out).mono ?_
    rintro e w' ⟨rfl, rfl⟩
    go_wp2_with (first | (go_at_call 48; refine (implRate_any _ _).mono ?_; rintro e w' ⟨rfl, rfl⟩) | (go_at_call 64; refine (implAmount_any _ _).mono ?_; rintro e w' ⟨rfl, rfl⟩))
    go_ret2
    exact ⟨ret_no HH.out, HB.out⟩
  have HT := hide (show (0 ≤ full ∧ full ≤ 1000000000000) ∧ (0 ≤ start ∧ start ≤ 1000000000000) ∧ (0 ≤ rate ∧ rate ≤ 10000) from ⟨amtB_iff.1 hf, amtB_iff.1 hs, ratB_iff.1 hr⟩)
  obtain ⟨⟨f0, f1⟩, ⟨s0, s1⟩, r0, r1⟩ := HT.out
  by_cases hz : full = 0
  · have hzb : (full == 0) = true := by simpa using hz
    have HH := hide (show endP full start rate from ⟨HT.out, .inl hz⟩)
    have HV := hide (show (0 : Int) = endW full start rate by unfold endW; rw [if_pos hz])
    clear hz
    go_enter Try.func37, Try.ntmps37
    go_wp2_with fail
    refine (implAmounts2_any w.heap.size full start _ HP.out).mono ?_
    rintro e w' ⟨rfl, rfl⟩
    go_wp2_with (first | (go_at_call 48; refine (implRate_any _ _).mono ?_; rintro e w' ⟨rfl, rfl⟩) | (go_at_call 64; refine (implAmount_any _ _).mono ?_; rintro e w' ⟨rfl, rfl⟩))
    go_ret2
    exact ⟨ret_val HH.out HV.out, HB.out⟩
  have hzb : (full == 0) = false := by simpa using hz
  by_cases hrz : rate = 0
  · have hrb : (rate == 0) = true := by simpa using hrz
    have HH := hide (show ¬ endP full start rate from fun h => by rcases h.2 with h | h; exact hz h; exact h.1 hrz)
    clear hz hrz
    go_enter Try.func37, Try.ntmps37
    go_wp2_with fail
    refine (implAmounts2_any w.heap.size full start _ HP.out).mono ?_
    rintro e w' ⟨rfl, rfl⟩
    go_wp2_with (first | (go_at_call 48; refine (implRate_any _ _).mono ?_; rintro e w' ⟨rfl, rfl⟩) | (go_at_call 64; refine (implAmount_any _ _).mono ?_; rintro e w' ⟨rfl, rfl⟩))
    go_ret2
    exact ⟨ret_no HH.out, HB.out⟩
  have hrb : (rate == 0) = false := by simpa using hrz
  have hq0 : 0 ≤ (full - 1) * 10000 / rate := Int.ediv_nonneg (by omega) (by omega)
  have hq1 : (full - 1) * 10000 / rate ≤ (full - 1) * 10000 := Int.ediv_le_self _ (by omega)
  have hn0 : 0 ≤ (full - 1) * 10000 := by omega
  have HE := hide (show endV full start rate = start + (full - 1) * 10000 / rate + 1 from rfl)
  have HV := hide (show start + (full - 1) * 10000 / rate + 1 = endW full start rate by unfold endW; rw [if_neg hz]; rfl)
  cases ha : amtB (start + (full - 1) * 10000 / rate + 1)
  · have HH := hide (show ¬ endP full start rate from fun h => by
      rcases h.2 with h | h
      · exact hz h
      · rw [HE.out] at h; rw [amtB_yes h.2] at ha; cases ha)
    clear hz
    go_enter Try.func37, Try.ntmps37
    go_wp2_with fail
    refine (implAmounts2_any w.heap.size full start _ HP.out).mono ?_
    rintro e w' ⟨rfl, rfl⟩
    go_wp2_with (first | (go_at_call 48; refine (implRate_any _ _).mono ?_; rintro e w' ⟨rfl, rfl⟩) | (go_at_call 64; refine (implAmount_any _ _).mono ?_; rintro e w' ⟨rfl, rfl⟩))
    go_ret2
    exact ⟨ret_no HH.out, HB.out⟩
  · have HH := hide (show endP full start rate from ⟨HT.out, .inr ⟨hrz, by rw [HE.out]; exact amtB_iff.1 ha⟩⟩)
    clear hz
    go_enter Try.func37, Try.ntmps37
    go_wp2_with fail
    refine (implAmounts2_any w.heap.size full start _ HP.out).mono ?_
    rintro e w' ⟨rfl, rfl⟩
    go_wp2_with (first | (go_at_call 48; refine (implRate_any _ _).mono ?_; rintro e w' ⟨rfl, rfl⟩) | (go_at_call 64; refine (implAmount_any _ _).mono ?_; rintro e w' ⟨rfl, rfl⟩))
    go_ret2
    exact ⟨ret_val HH.out HV.out, HB.out⟩

theorem implNetOf_yes (A A' : Option Addr) (n c n' c' : Nat) (x y : Nat → Int) (v r : Int) (w : World) (hn : n ≤ maxLen) (hn' : n' ≤ maxLen)
    (hs : SL w A n (fun j => .int .i64 (x j))) (hs' : SL w A' n' (fun j => .int .i64 (y j))) (h : canP x y n n' v r) :
    Calls Try.prog 27 #[.agg #[.slice A n c, .slice A' n' c'], .int .i64 v, .int .i64 r] w fun e w' => e = .returned (.tuple #[.int .i64 (v - dueV x y n v r), .bool true]) ∧ Below w.heap.size w w' :=
  (implNetOf_any A A' n c n' c' x y v r w hn hn' hs hs').mono fun _ _ ⟨he, hb⟩ => ⟨he.trans (ret_yes h).symm, hb⟩
theorem implNetOf_no (A A' : Option Addr) (n c n' c' : Nat) (x y : Nat → Int) (v r : Int) (w : World) (hn : n ≤ maxLen) (hn' : n' ≤ maxLen)
    (hs : SL w A n (fun j => .int .i64 (x j))) (hs' : SL w A' n' (fun j => .int .i64 (y j))) (h : ¬ canP x y n n' v r) :
    Calls Try.prog 27 #[.agg #[.slice A n c, .slice A' n' c'], .int .i64 v, .int .i64 r] w fun e w' => e = .returned (.tuple #[.int .i64 0, .bool false]) ∧ Below w.heap.size w w' :=
  (implNetOf_any A A' n c n' c' x y v r w hn hn' hs hs').mono fun _ _ ⟨he, hb⟩ => ⟨he.trans (ret_no h).symm, hb⟩
theorem implRateAt_yes (A A' : Option Addr) (n c n' c' : Nat) (x y : Nat → Int) (v : Int) (w : World) (hn : n ≤ maxLen) (hn' : n' ≤ maxLen)
    (hs : SL w A n (fun j => .int .i64 (x j))) (hs' : SL w A' n' (fun j => .int .i64 (y j))) (h : rateP x y n n' v) :
    Calls Try.prog 29 #[.agg #[.slice A n c, .slice A' n' c'], .int .i64 v] w fun e w' => e = .returned (.tuple #[.int .i64 (rateK x y v n), .bool true]) ∧ Below w.heap.size w w' :=
  (implRateAt_any A A' n c n' c' x y v w hn hn' hs hs').mono fun _ _ ⟨he, hb⟩ => ⟨he.trans (ret_yes h).symm, hb⟩
theorem implRateAt_no (A A' : Option Addr) (n c n' c' : Nat) (x y : Nat → Int) (v : Int) (w : World) (hn : n ≤ maxLen) (hn' : n' ≤ maxLen)
    (hs : SL w A n (fun j => .int .i64 (x j))) (hs' : SL w A' n' (fun j => .int .i64 (y j))) (h : ¬ rateP x y n n' v) :
    Calls Try.prog 29 #[.agg #[.slice A n c, .slice A' n' c'], .int .i64 v] w fun e w' => e = .returned (.tuple #[.int .i64 0, .bool false]) ∧ Below w.heap.size w w' :=
  (implRateAt_any A A' n c n' c' x y v w hn hn' hs hs').mono fun _ _ ⟨he, hb⟩ => ⟨he.trans (ret_no h).symm, hb⟩
theorem implTaperOf_yes (full start rate cents : Int) (w : World) (h : tapP full start rate cents) :
    Calls Try.prog 35 #[.int .i64 full, .int .i64 start, .int .i64 rate, .int .i64 cents] w fun e w' => e = .returned (.tuple #[.int .i64 (tapV full start rate cents), .bool true]) ∧ Below w.heap.size w w' :=
  (implTaperOf_any full start rate cents w).mono fun _ _ ⟨he, hb⟩ => ⟨he.trans (ret_yes h).symm, hb⟩
theorem implTaperOf_no (full start rate cents : Int) (w : World) (h : ¬ tapP full start rate cents) :
    Calls Try.prog 35 #[.int .i64 full, .int .i64 start, .int .i64 rate, .int .i64 cents] w fun e w' => e = .returned (.tuple #[.int .i64 0, .bool false]) ∧ Below w.heap.size w w' :=
  (implTaperOf_any full start rate cents w).mono fun _ _ ⟨he, hb⟩ => ⟨he.trans (ret_no h).symm, hb⟩
def ntP (x y : Nat → Int) (n m : Nat) (full start rate v r : Int) : Prop := canP x y n m v r ∧ tapP full start rate v ∧ v - dueV x y n v r + tapV full start rate v ≤ 1000000000000
noncomputable def rtV (x y : Nat → Int) (n : Nat) (full start rate v : Int) : Int := if start ≤ v ∧ 0 < tapV full start rate v then rateK x y v n + rate else rateK x y v n
def rtP (x y : Nat → Int) (n m : Nat) (full start rate v : Int) : Prop := rateP x y n m v ∧ tapP full start rate v

set_option maxHeartbeats 2000000 in
theorem specNetWithTaper_any (A A' : Option Addr) (n c n' c' : Nat) (x y : Nat → Int) (full start rate v r : Int) (w : World) (hn : n ≤ maxLen) (hn' : n' ≤ maxLen)
    (hs : SL w A n (fun j => .int .i64 (x j))) (hs' : SL w A' n' (fun j => .int .i64 (y j))) :
    Calls Try.prog 38 #[.agg #[.slice A n c, .slice A' n' c'], .int .i64 full, .int .i64 start, .int .i64 rate, .int .i64 v, .int .i64 r] w fun e w' => e = .returned (.tuple #[.int .i64 (ifV (ntP x y n n' full start rate v r) (v - dueV x y n v r + tapV full start rate v)), .bool (tru (ntP x y n n' full start rate v r))]) ∧ Below w.heap.size w w' := by
  have HB := hide ((Below.refl w.heap.size w).alloc (Nat.le_refl _) (.cells #[.slice A n c, .slice A' n' c'] 27))
  have HS := hide (hs.below HB.out)
  have HS' := hide (hs'.below HB.out)
  have HC := hide (specCan_any w.heap.size A A' n c n' c' x y v r (w.alloc (.cells #[.slice A n c, .slice A' n' c'] 27)) hn hn' (by simp) (by simp) HS.out HS'.out)
  clear hs hs'
  by_cases hcan : canP x y n n' v r
  · have hct := tru_yes hcan
    cases ht : tap3B full start rate
    · have HH := hide (show ¬ ntP x y n n' full start rate v r from fun h => by rw [tap3B_iff.2 ⟨h.2.1.1, h.2.1.2.1, h.2.1.2.2.1⟩] at ht; cases ht)
      clear hcan
      go_enter Try.func38, Try.ntmps38
      go_wp2_with fail
      refine HC.out.mono ?_
      rintro e w' ⟨rfl, q, rfl⟩
      go_wp2_with fail
      refine (specTapers_any _ _ _ _).mono ?_
      rintro e w' ⟨rfl, rfl⟩
      go_wp2_with fail
      go_ret2
      exact ⟨ret_no HH.out, bel_drewN HB.out _⟩
    · have h3 := tap3B_iff.1 ht
      have HT := hide (show tapP full start rate v from ⟨h3.1, h3.2.1, h3.2.2, hcan.2.1⟩)
      have HN := hide hcan
      obtain ⟨d0, d1⟩ := dueV_bd (r := r) hcan.1 hcan.2.1.1
      obtain ⟨v0, v1⟩ := hcan.2.1
      obtain ⟨t0, t1⟩ := tapV_bd HT.out
      obtain ⟨f0, f1⟩ := h3.1
      clear hcan h3
      cases ha : amtB (v - dueV x y n v r + tapV full start rate v)
      · have HH := hide (show ¬ ntP x y n n' full start rate v r from fun h => by rw [amtB_yes ⟨by omega, h.2.2⟩] at ha; cases ha)
        go_enter Try.func38, Try.ntmps38
        go_wp2_with fail
        refine HC.out.mono ?_
        rintro e w' ⟨rfl, q, rfl⟩
        go_wp2_with fail
        refine (specTapers_any _ _ _ _).mono ?_
        rintro e w' ⟨rfl, rfl⟩
        go_wp2_with fail
        refine (specNet_any w.heap.size A A' n c n' c' x y v r _ (by simp) (by simp) (HS.out.drewN q) (HS'.out.drewN q) HN.out).mono ?_
        rintro e w' ⟨rfl, q2, rfl⟩
        go_wp2_with fail
        refine (specTaper_any _ _ _ _ _ HT.out).mono ?_
        rintro e w' ⟨rfl, rfl⟩
        go_wp2_with fail
        refine (specCents_any _ _).mono ?_
        rintro e w' ⟨rfl, rfl⟩
        go_wp2_with fail
        go_ret2
        exact ⟨ret_no HH.out, bel_drewN HB.out _⟩
      · have HH := hide (show ntP x y n n' full start rate v r from ⟨HN.out, HT.out, (amtB_iff.1 ha).2⟩)
        go_enter Try.func38, Try.ntmps38
        go_wp2_with fail
        refine HC.out.mono ?_
        rintro e w' ⟨rfl, q, rfl⟩
        go_wp2_with fail
        refine (specTapers_any _ _ _ _).mono ?_
        rintro e w' ⟨rfl, rfl⟩
        go_wp2_with fail
        refine (specNet_any w.heap.size A A' n c n' c' x y v r _ (by simp) (by simp) (HS.out.drewN q) (HS'.out.drewN q) HN.out).mono ?_
        rintro e w' ⟨rfl, q2, rfl⟩
        go_wp2_with fail
        refine (specTaper_any _ _ _ _ _ HT.out).mono ?_
        rintro e w' ⟨rfl, rfl⟩
        go_wp2_with fail
        refine (specCents_any _ _).mono ?_
        rintro e w' ⟨rfl, rfl⟩
        go_wp2_with fail
        go_ret2
        exact ⟨ret_yes HH.out, bel_drewN HB.out _⟩
  · have hct := tru_no hcan
    have HH := hide (show ¬ ntP x y n n' full start rate v r from fun h => hcan h.1)
    clear hcan
    go_enter Try.func38, Try.ntmps38
    go_wp2_with fail
    refine HC.out.mono ?_
    rintro e w' ⟨rfl, q, rfl⟩
    go_wp2_with fail
    go_ret2
    exact ⟨ret_no HH.out, bel_drewN HB.out _⟩

set_option maxHeartbeats 2000000 in
theorem implNetWithTaper_any (A A' : Option Addr) (n c n' c' : Nat) (x y : Nat → Int) (full start rate v r : Int) (w : World) (hn : n ≤ maxLen) (hn' : n' ≤ maxLen)
    (hs : SL w A n (fun j => .int .i64 (x j))) (hs' : SL w A' n' (fun j => .int .i64 (y j))) :
    Calls Try.prog 39 #[.agg #[.slice A n c, .slice A' n' c'], .int .i64 full, .int .i64 start, .int .i64 rate, .int .i64 v, .int .i64 r] w fun e w' => e = .returned (.tuple #[.int .i64 (ifV (ntP x y n n' full start rate v r) (v - dueV x y n v r + tapV full start rate v)), .bool (tru (ntP x y n n' full start rate v r))]) ∧ Below w.heap.size w w' := by
  have HB := hide ((Below.refl w.heap.size w).alloc (Nat.le_refl _) (.cells #[.slice A n c, .slice A' n' c'] 27))
  have HS := hide (hs.below HB.out)
  have HS' := hide (hs'.below HB.out)
  clear hs hs'
  by_cases hcan : canP x y n n' v r
  · have HN := hide hcan
    by_cases htap : tapP full start rate v
    · have HT := hide htap
      obtain ⟨d0, d1⟩ := dueV_bd (r := r) hcan.1 hcan.2.1.1
      obtain ⟨v0, v1⟩ := hcan.2.1
      obtain ⟨t0, t1⟩ := tapV_bd htap
      obtain ⟨f0, f1⟩ := htap.1
      clear hcan htap
      cases ha : amtB (v - dueV x y n v r + tapV full start rate v)
      · have HH := hide (show ¬ ntP x y n n' full start rate v r from fun h => by rw [amtB_yes ⟨by omega, h.2.2⟩] at ha; cases ha)
        go_enter Try.func39, Try.ntmps39
        go_wp2_with fail
        refine (implNetOf_yes A A' n c n' c' x y v r _ hn hn' HS.out HS'.out HN.out).mono ?_
        rintro e w1 ⟨rfl, hb⟩
        have HB1 := hide (below_left HB.out hb (by simp))
        clear hb
        go_wp2_with fail
        refine (implTaperOf_yes _ _ _ _ _ HT.out).mono ?_
        rintro e w2 ⟨rfl, hb⟩
        have HB2 := hide (below_left HB1.out hb HB1.out.size)
        clear hb
        go_wp2_with fail
        refine (implAmount_any _ _).mono ?_
        rintro e w' ⟨rfl, rfl⟩
        go_wp2_with fail
        go_ret2
        exact ⟨ret_no HH.out, HB2.out⟩
      · have HH := hide (show ntP x y n n' full start rate v r from ⟨HN.out, HT.out, (amtB_iff.1 ha).2⟩)
        go_enter Try.func39, Try.ntmps39
        go_wp2_with fail
        refine (implNetOf_yes A A' n c n' c' x y v r _ hn hn' HS.out HS'.out HN.out).mono ?_
        rintro e w1 ⟨rfl, hb⟩
        have HB1 := hide (below_left HB.out hb (by simp))
        clear hb
        go_wp2_with fail
        refine (implTaperOf_yes _ _ _ _ _ HT.out).mono ?_
        rintro e w2 ⟨rfl, hb⟩
        have HB2 := hide (below_left HB1.out hb HB1.out.size)
        clear hb
        go_wp2_with fail
        refine (implAmount_any _ _).mono ?_
        rintro e w' ⟨rfl, rfl⟩
        go_wp2_with fail
        go_ret2
        exact ⟨ret_yes HH.out, HB2.out⟩
    · have HT := hide htap
      have HH := hide (show ¬ ntP x y n n' full start rate v r from fun h => htap h.2.1)
      clear hcan htap
      go_enter Try.func39, Try.ntmps39
      go_wp2_with fail
      refine (implNetOf_yes A A' n c n' c' x y v r _ hn hn' HS.out HS'.out HN.out).mono ?_
      rintro e w1 ⟨rfl, hb⟩
      have HB1 := hide (below_left HB.out hb (by simp))
      clear hb
      go_wp2_with fail
      refine (implTaperOf_no _ _ _ _ _ HT.out).mono ?_
      rintro e w2 ⟨rfl, hb⟩
      have HB2 := hide (below_left HB1.out hb HB1.out.size)
      clear hb
      go_wp2_with fail
      go_ret2
      exact ⟨ret_no HH.out, HB2.out⟩
  · have HN := hide hcan
    have HH := hide (show ¬ ntP x y n n' full start rate v r from fun h => hcan h.1)
    by_cases htap : tapP full start rate v
    · have HT := hide htap
      clear hcan htap
      go_enter Try.func39, Try.ntmps39
      go_wp2_with fail
      refine (implNetOf_no A A' n c n' c' x y v r _ hn hn' HS.out HS'.out HN.out).mono ?_
      rintro e w1 ⟨rfl, hb⟩
      have HB1 := hide (below_left HB.out hb (by simp))
      clear hb
      go_wp2_with fail
      refine (implTaperOf_yes _ _ _ _ _ HT.out).mono ?_
      rintro e w2 ⟨rfl, hb⟩
      have HB2 := hide (below_left HB1.out hb HB1.out.size)
      clear hb
      go_wp2_with fail
      go_ret2
      exact ⟨ret_no HH.out, HB2.out⟩
    · have HT := hide htap
      clear hcan htap
      go_enter Try.func39, Try.ntmps39
      go_wp2_with fail
      refine (implNetOf_no A A' n c n' c' x y v r _ hn hn' HS.out HS'.out HN.out).mono ?_
      rintro e w1 ⟨rfl, hb⟩
      have HB1 := hide (below_left HB.out hb (by simp))
      clear hb
      go_wp2_with fail
      refine (implTaperOf_no _ _ _ _ _ HT.out).mono ?_
      rintro e w2 ⟨rfl, hb⟩
      have HB2 := hide (below_left HB1.out hb HB1.out.size)
      clear hb
      go_wp2_with fail
      go_ret2
      exact ⟨ret_no HH.out, HB2.out⟩

set_option maxHeartbeats 2000000 in
theorem specRateWithTaper_any (A A' : Option Addr) (n c n' c' : Nat) (x y : Nat → Int) (full start rate v : Int) (w : World) (hn : n ≤ maxLen) (hn' : n' ≤ maxLen)
    (hs : SL w A n (fun j => .int .i64 (x j))) (hs' : SL w A' n' (fun j => .int .i64 (y j))) :
    Calls Try.prog 40 #[.agg #[.slice A n c, .slice A' n' c'], .int .i64 full, .int .i64 start, .int .i64 rate, .int .i64 v] w fun e w' => e = .returned (.tuple #[.int .i64 (ifV (rtP x y n n' full start rate v) (rtV x y n full start rate v)), .bool (tru (rtP x y n n' full start rate v))]) ∧ Below w.heap.size w w' := by
  have HB := hide ((Below.refl w.heap.size w).alloc (Nat.le_refl _) (.cells #[.slice A n c, .slice A' n' c'] 27))
  have HS := hide (hs.below HB.out)
  have HS' := hide (hs'.below HB.out)
  have HC := hide (specIs_any w.heap.size A A' n c n' c' x y (w.alloc (.cells #[.slice A n c, .slice A' n' c'] 27)) hn hn' (by simp) (by simp) HS.out HS'.out)
  clear hs hs'
  by_cases hcan : Val x y n n'
  · have hct := tru_yes hcan
    cases hv : amtB v
    · have HH := hide (show ¬ rtP x y n n' full start rate v from fun h => by rw [amtB_yes h.1.2] at hv; cases hv)
      clear hcan
      go_enter Try.func40, Try.ntmps40
      go_wp2_with fail
      refine HC.out.mono ?_
      rintro e w' ⟨rfl, q, rfl⟩
      go_wp2_with fail
      refine (specCents_any _ _).mono ?_
      rintro e w' ⟨rfl, rfl⟩
      go_wp2_with fail
      go_ret2
      exact ⟨ret_no HH.out, bel_drewN HB.out _⟩
    cases ht : tap3B full start rate
    · have HH := hide (show ¬ rtP x y n n' full start rate v from fun h => by rw [tap3B_iff.2 ⟨h.2.1, h.2.2.1, h.2.2.2.1⟩] at ht; cases ht)
      clear hcan
      go_enter Try.func40, Try.ntmps40
      go_wp2_with fail
      refine HC.out.mono ?_
      rintro e w' ⟨rfl, q, rfl⟩
      go_wp2_with fail
      refine (specCents_any _ _).mono ?_
      rintro e w' ⟨rfl, rfl⟩
      go_wp2_with fail
      refine (specTapers_any _ _ _ _).mono ?_
      rintro e w' ⟨rfl, rfl⟩
      go_wp2_with fail
      go_ret2
      exact ⟨ret_no HH.out, bel_drewN HB.out _⟩
    · have h3 := tap3B_iff.1 ht
      have HT := hide (show tapP full start rate v from ⟨h3.1, h3.2.1, h3.2.2, amtB_iff.1 hv⟩)
      have HN := hide hcan
      have HH := hide (show rtP x y n n' full start rate v from ⟨⟨hcan, amtB_iff.1 hv⟩, HT.out⟩)
      obtain ⟨v0, v1⟩ := amtB_iff.1 hv
      obtain ⟨t0, t1⟩ := tapV_bd HT.out
      obtain ⟨r0, r1⟩ := h3.2.2
      obtain ⟨k0, k1⟩ := rateK_bd (c := v) hcan n (Nat.le_refl _)
      clear hcan h3
      by_cases hsv : start ≤ v
      · by_cases hpos : 0 < tapV full start rate v
        · have HV := hide (show rateK x y v n + rate = rtV x y n full start rate v by unfold rtV; rw [if_pos ⟨hsv, hpos⟩])
          go_enter Try.func40, Try.ntmps40
          go_wp2_with fail
          refine HC.out.mono ?_
          rintro e w' ⟨rfl, q, rfl⟩
          go_wp2_with fail
          refine (specCents_any _ _).mono ?_
          rintro e w' ⟨rfl, rfl⟩
          go_wp2_with fail
          refine (specTapers_any _ _ _ _).mono ?_
          rintro e w' ⟨rfl, rfl⟩
          go_wp2_with fail
          refine (specAt_any w.heap.size A A' n c n' c' x y v _ (by simp) (by simp) (HS.out.drewN q) (HS'.out.drewN q) HN.out v0).mono ?_
          rintro e w' ⟨rfl, rfl⟩
          go_wp2_with fail
          refine (specTaper_any _ _ _ _ _ HT.out).mono ?_
          rintro e w' ⟨rfl, rfl⟩
          go_wp2_with fail
          go_ret2
          exact ⟨ret_val HH.out HV.out, bel_drewN HB.out _⟩
        · have HV := hide (show rateK x y v n = rtV x y n full start rate v by unfold rtV; rw [if_neg (fun h => hpos h.2)])
          go_enter Try.func40, Try.ntmps40
          go_wp2_with fail
          refine HC.out.mono ?_
          rintro e w' ⟨rfl, q, rfl⟩
          go_wp2_with fail
          refine (specCents_any _ _).mono ?_
          rintro e w' ⟨rfl, rfl⟩
          go_wp2_with fail
          refine (specTapers_any _ _ _ _).mono ?_
          rintro e w' ⟨rfl, rfl⟩
          go_wp2_with fail
          refine (specAt_any w.heap.size A A' n c n' c' x y v _ (by simp) (by simp) (HS.out.drewN q) (HS'.out.drewN q) HN.out v0).mono ?_
          rintro e w' ⟨rfl, rfl⟩
          go_wp2_with fail
          refine (specTaper_any _ _ _ _ _ HT.out).mono ?_
          rintro e w' ⟨rfl, rfl⟩
          go_wp2_with fail
          go_ret2
          exact ⟨ret_val HH.out HV.out, bel_drewN HB.out _⟩
      · have HV := hide (show rateK x y v n = rtV x y n full start rate v by unfold rtV; rw [if_neg (fun h => hsv h.1)])
        go_enter Try.func40, Try.ntmps40
        go_wp2_with fail
        refine HC.out.mono ?_
        rintro e w' ⟨rfl, q, rfl⟩
        go_wp2_with fail
        refine (specCents_any _ _).mono ?_
        rintro e w' ⟨rfl, rfl⟩
        go_wp2_with fail
        refine (specTapers_any _ _ _ _).mono ?_
        rintro e w' ⟨rfl, rfl⟩
        go_wp2_with fail
        refine (specAt_any w.heap.size A A' n c n' c' x y v _ (by simp) (by simp) (HS.out.drewN q) (HS'.out.drewN q) HN.out v0).mono ?_
        rintro e w' ⟨rfl, rfl⟩
        go_wp2_with fail
        go_ret2
        exact ⟨ret_val HH.out HV.out, bel_drewN HB.out _⟩
  · have hct := tru_no hcan
    have HH := hide (show ¬ rtP x y n n' full start rate v from fun h => hcan h.1.1)
    clear hcan
    go_enter Try.func40, Try.ntmps40
    go_wp2_with fail
    refine HC.out.mono ?_
    rintro e w' ⟨rfl, q, rfl⟩
    go_wp2_with fail
    go_ret2
    exact ⟨ret_no HH.out, bel_drewN HB.out _⟩

set_option maxHeartbeats 2000000 in
theorem implRateWithTaper_any (A A' : Option Addr) (n c n' c' : Nat) (x y : Nat → Int) (full start rate v : Int) (w : World) (hn : n ≤ maxLen) (hn' : n' ≤ maxLen)
    (hs : SL w A n (fun j => .int .i64 (x j))) (hs' : SL w A' n' (fun j => .int .i64 (y j))) :
    Calls Try.prog 41 #[.agg #[.slice A n c, .slice A' n' c'], .int .i64 full, .int .i64 start, .int .i64 rate, .int .i64 v] w fun e w' => e = .returned (.tuple #[.int .i64 (ifV (rtP x y n n' full start rate v) (rtV x y n full start rate v)), .bool (tru (rtP x y n n' full start rate v))]) ∧ Below w.heap.size w w' := by
  have HB := hide ((Below.refl w.heap.size w).alloc (Nat.le_refl _) (.cells #[.slice A n c, .slice A' n' c'] 27))
  have HS := hide (hs.below HB.out)
  have HS' := hide (hs'.below HB.out)
  clear hs hs'
  by_cases hcan : rateP x y n n' v
  · have HN := hide hcan
    by_cases htap : tapP full start rate v
    · have HT := hide htap
      have HH := hide (show rtP x y n n' full start rate v from ⟨hcan, htap⟩)
      obtain ⟨v0, v1⟩ := hcan.2
      obtain ⟨t0, t1⟩ := tapV_bd htap
      obtain ⟨r0, r1⟩ := htap.2.2.1
      obtain ⟨k0, k1⟩ := rateK_bd (c := v) hcan.1 n (Nat.le_refl _)
      clear hcan htap
      by_cases hsv : start ≤ v
      · by_cases hpos : 0 < tapV full start rate v
        · have HV := hide (show rateK x y v n + rate = rtV x y n full start rate v by unfold rtV; rw [if_pos ⟨hsv, hpos⟩])
          go_enter Try.func41, Try.ntmps41
          go_wp2_with fail
          refine (implRateAt_yes A A' n c n' c' x y v _ hn hn' HS.out HS'.out HN.out).mono ?_
          rintro e w1 ⟨rfl, hb⟩
          have HB1 := hide (below_left HB.out hb (by simp))
          clear hb
          go_wp2_with fail
          refine (implTaperOf_yes _ _ _ _ _ HT.out).mono ?_
          rintro e w2 ⟨rfl, hb⟩
          have HB2 := hide (below_left HB1.out hb HB1.out.size)
          clear hb
          go_wp2_with fail
          go_ret2
          exact ⟨ret_val HH.out HV.out, HB2.out⟩
        · have HV := hide (show rateK x y v n = rtV x y n full start rate v by unfold rtV; rw [if_neg (fun h => hpos h.2)])
          go_enter Try.func41, Try.ntmps41
          go_wp2_with fail
          refine (implRateAt_yes A A' n c n' c' x y v _ hn hn' HS.out HS'.out HN.out).mono ?_
          rintro e w1 ⟨rfl, hb⟩
          have HB1 := hide (below_left HB.out hb (by simp))
          clear hb
          go_wp2_with fail
          refine (implTaperOf_yes _ _ _ _ _ HT.out).mono ?_
          rintro e w2 ⟨rfl, hb⟩
          have HB2 := hide (below_left HB1.out hb HB1.out.size)
          clear hb
          go_wp2_with fail
          go_ret2
          exact ⟨ret_val HH.out HV.out, HB2.out⟩
      · have HV := hide (show rateK x y v n = rtV x y n full start rate v by unfold rtV; rw [if_neg (fun h => hsv h.1)])
        go_enter Try.func41, Try.ntmps41
        go_wp2_with fail
        refine (implRateAt_yes A A' n c n' c' x y v _ hn hn' HS.out HS'.out HN.out).mono ?_
        rintro e w1 ⟨rfl, hb⟩
        have HB1 := hide (below_left HB.out hb (by simp))
        clear hb
        go_wp2_with fail
        refine (implTaperOf_yes _ _ _ _ _ HT.out).mono ?_
        rintro e w2 ⟨rfl, hb⟩
        have HB2 := hide (below_left HB1.out hb HB1.out.size)
        clear hb
        go_wp2_with fail
        go_ret2
        exact ⟨ret_val HH.out HV.out, HB2.out⟩
    · have HT := hide htap
      have HH := hide (show ¬ rtP x y n n' full start rate v from fun h => htap h.2)
      clear hcan htap
      go_enter Try.func41, Try.ntmps41
      go_wp2_with fail
      refine (implRateAt_yes A A' n c n' c' x y v _ hn hn' HS.out HS'.out HN.out).mono ?_
      rintro e w1 ⟨rfl, hb⟩
      have HB1 := hide (below_left HB.out hb (by simp))
      clear hb
      go_wp2_with fail
      refine (implTaperOf_no _ _ _ _ _ HT.out).mono ?_
      rintro e w2 ⟨rfl, hb⟩
      have HB2 := hide (below_left HB1.out hb HB1.out.size)
      clear hb
      go_wp2_with fail
      go_ret2
      exact ⟨ret_no HH.out, HB2.out⟩
  · have HN := hide hcan
    have HH := hide (show ¬ rtP x y n n' full start rate v from fun h => hcan h.1)
    by_cases htap : tapP full start rate v
    · have HT := hide htap
      clear hcan htap
      go_enter Try.func41, Try.ntmps41
      go_wp2_with fail
      refine (implRateAt_no A A' n c n' c' x y v _ hn hn' HS.out HS'.out HN.out).mono ?_
      rintro e w1 ⟨rfl, hb⟩
      have HB1 := hide (below_left HB.out hb (by simp))
      clear hb
      go_wp2_with fail
      refine (implTaperOf_yes _ _ _ _ _ HT.out).mono ?_
      rintro e w2 ⟨rfl, hb⟩
      have HB2 := hide (below_left HB1.out hb HB1.out.size)
      clear hb
      go_wp2_with fail
      go_ret2
      exact ⟨ret_no HH.out, HB2.out⟩
    · have HT := hide htap
      clear hcan htap
      go_enter Try.func41, Try.ntmps41
      go_wp2_with fail
      refine (implRateAt_no A A' n c n' c' x y v _ hn hn' HS.out HS'.out HN.out).mono ?_
      rintro e w1 ⟨rfl, hb⟩
      have HB1 := hide (below_left HB.out hb (by simp))
      clear hb
      go_wp2_with fail
      refine (implTaperOf_no _ _ _ _ _ HT.out).mono ?_
      rintro e w2 ⟨rfl, hb⟩
      have HB2 := hide (below_left HB1.out hb HB1.out.size)
      clear hb
      go_wp2_with fail
      go_ret2
      exact ⟨ret_no HH.out, HB2.out⟩
end Go.Proofs.Ytpgpnkaemgigdaa
