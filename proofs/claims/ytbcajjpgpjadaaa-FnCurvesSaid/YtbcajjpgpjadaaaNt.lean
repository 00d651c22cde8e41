/- Where tapers end; nets and rates with tapers; by both. -/
import Derived.Test.YtbcajjpgpjadaaaTp
import Derived.Test.YtbcajjpgpjadaaaNi
import Derived.Test.YtbcajjpgpjadaaaRt
namespace Go.Proofs.Ytbcajjpgpjadaaa
open Go.RowKit Go.Dues
def endV (full start rate : Int) : Int := start + (full - 1) * 10000 / rate + 1
def endP (full start rate : Int) : Prop := ((0 ≤ full ∧ full ≤ 1000000000000) ∧ (0 ≤ start ∧ start ≤ 1000000000000) ∧ (0 ≤ rate ∧ rate ≤ 10000)) ∧ (full = 0 ∨ (¬ rate = 0 ∧ 0 ≤ endV full start rate ∧ endV full start rate ≤ 1000000000000))
noncomputable def endW (full start rate : Int) : Int := if full = 0 then 0 else endV full start rate
theorem implNetOf_yes (A A' : Option Addr) (n c n' c' : Nat) (x y : Nat → Int) (v r : Int) (w : World) (hn : n ≤ maxLen) (hn' : n' ≤ maxLen)
    (hs : SL w A n (fun j => .int .i64 (x j))) (hs' : SL w A' n' (fun j => .int .i64 (y j))) (h : canP x y n n' v r) :
    Calls Try.prog 173 #[.agg #[.slice A n c, .slice A' n' c'], .int .i64 v, .int .i64 r] w fun e w' => e = .returned (.tuple #[.int .i64 (v - dueV x y n v r), .bool true]) ∧ Below w.heap.size w w' :=
  (implNetOf_any A A' n c n' c' x y v r w hn hn' hs hs').mono fun _ _ ⟨he, hb⟩ => ⟨he.trans (ret_yes h).symm, hb⟩
theorem implNetOf_no (A A' : Option Addr) (n c n' c' : Nat) (x y : Nat → Int) (v r : Int) (w : World) (hn : n ≤ maxLen) (hn' : n' ≤ maxLen)
    (hs : SL w A n (fun j => .int .i64 (x j))) (hs' : SL w A' n' (fun j => .int .i64 (y j))) (h : ¬ canP x y n n' v r) :
    Calls Try.prog 173 #[.agg #[.slice A n c, .slice A' n' c'], .int .i64 v, .int .i64 r] w fun e w' => e = .returned (.tuple #[.int .i64 0, .bool false]) ∧ Below w.heap.size w w' :=
  (implNetOf_any A A' n c n' c' x y v r w hn hn' hs hs').mono fun _ _ ⟨he, hb⟩ => ⟨he.trans (ret_no h).symm, hb⟩
theorem implTaperOf_yes (full start rate cents : Int) (w : World) (h : tapP full start rate cents) :
    Calls Try.prog 174 #[.int .i64 full, .int .i64 start, .int .i64 rate, .int .i64 cents] w fun e w' => e = .returned (.tuple #[.int .i64 (tapV full start rate cents), .bool true]) ∧ Below w.heap.size w w' :=
  (implTaperOf_any full start rate cents w).mono fun _ _ ⟨he, hb⟩ => ⟨he.trans (ret_yes h).symm, hb⟩
theorem implTaperOf_no (full start rate cents : Int) (w : World) (h : ¬ tapP full start rate cents) :
    Calls Try.prog 174 #[.int .i64 full, .int .i64 start, .int .i64 rate, .int .i64 cents] w fun e w' => e = .returned (.tuple #[.int .i64 0, .bool false]) ∧ Below w.heap.size w w' :=
  (implTaperOf_any full start rate cents w).mono fun _ _ ⟨he, hb⟩ => ⟨he.trans (ret_no h).symm, hb⟩
def ntP (x y : Nat → Int) (n m : Nat) (full start rate v r : Int) : Prop := canP x y n m v r ∧ tapP full start rate v ∧ v - dueV x y n v r + tapV full start rate v ≤ 1000000000000
noncomputable def rtV (x y : Nat → Int) (n : Nat) (full start rate v : Int) : Int := if start ≤ v ∧ 0 < tapV full start rate v then rateK x y v n + rate else rateK x y v n
def rtP (x y : Nat → Int) (n m : Nat) (full start rate v : Int) : Prop := rateP x y n m v ∧ tapP full start rate v

set_option maxHeartbeats 2000000 in
theorem implNetWithTaper_any (A A' : Option Addr) (n c n' c' : Nat) (x y : Nat → Int) (full start rate v r : Int) (w : World) (hn : n ≤ maxLen) (hn' : n' ≤ maxLen)
    (hs : SL w A n (fun j => .int .i64 (x j))) (hs' : SL w A' n' (fun j => .int .i64 (y j))) :
    Calls Try.prog 82 #[.agg #[.slice A n c, .slice A' n' c'], .int .i64 full, .int .i64 start, .int .i64 rate, .int .i64 v, .int .i64 r] w fun e w' => e = .returned (.tuple #[.int .i64 (ifV (ntP x y n n' full start rate v r) (v - dueV x y n v r + tapV full start rate v)), .bool (tru (ntP x y n n' full start rate v r))]) ∧ Below w.heap.size w w' := by
  have HB := hide ((Below.refl w.heap.size w).alloc (Nat.le_refl _) (.cells #[.slice A n c, .slice A' n' c'] 30))
  have HS := hide (hs.below HB.out)
  have HS' := hide (hs'.below HB.out)
  clear hs hs'
  by_cases hcan : canP x y n n' v r
  · have HN := hide hcan
    by_cases htap : tapP full start rate v
    · have HT := hide htap
      obtain ⟨d0, d1⟩ := dueV_bd (r := r) hcan.1 hcan.2.1.1
      obtain ⟨v0, v1⟩ := hcan.2.1
      obtain ⟨t0, t1⟩ := tapV_bd htap
      obtain ⟨f0, f1⟩ := htap.1
      clear hcan htap
      cases ha : amtB (v - dueV x y n v r + tapV full start rate v)
      · have HH := hide (show ¬ ntP x y n n' full start rate v r from fun h => by rw [amtB_yes ⟨by omega, h.2.2⟩] at ha; cases ha)
        go_enter Try.func82, Try.ntmps82
        go_wp2_with fail
        refine (implNetOf_yes A A' n c n' c' x y v r _ hn hn' HS.out HS'.out HN.out).mono ?_
        rintro e w1 ⟨rfl, hb⟩
        have HB1 := hide (below_left HB.out hb (by simp))
        clear hb
        go_wp2_with fail
        refine (implTaperOf_yes _ _ _ _ _ HT.out).mono ?_
        rintro e w2 ⟨rfl, hb⟩
        have HB2 := hide (below_left HB1.out hb HB1.out.size)
        clear hb
        go_wp2_with fail
        refine (implAmount_any _ _).mono ?_
        rintro e w' ⟨rfl, rfl⟩
        go_wp2_with fail
        go_ret2
        exact ⟨ret_no HH.out, HB2.out⟩
      · have HH := hide (show ntP x y n n' full start rate v r from ⟨HN.out, HT.out, (amtB_iff.1 ha).2⟩)
        go_enter Try.func82, Try.ntmps82
        go_wp2_with fail
        refine (implNetOf_yes A A' n c n' c' x y v r _ hn hn' HS.out HS'.out HN.out).mono ?_
        rintro e w1 ⟨rfl, hb⟩
        have HB1 := hide (below_left HB.out hb (by simp))
        clear hb
        go_wp2_with fail
        refine (implTaperOf_yes _ _ _ _ _ HT.out).mono ?_
        rintro e w2 ⟨rfl, hb⟩
        have HB2 := hide (below_left HB1.out hb HB1.out.size)
        clear hb
        go_wp2_with fail
        refine (implAmount_any _ _).mono ?_
        rintro e w' ⟨rfl, rfl⟩
        go_wp2_with fail
        go_ret2
        exact ⟨ret_yes HH.out, HB2.out⟩
    · have HT := hide htap
      have HH := hide (show ¬ ntP x y n n' full start rate v r from fun h => htap h.2.1)
      clear hcan htap
      go_enter Try.func82, Try.ntmps82
      go_wp2_with fail
      refine (implNetOf_yes A A' n c n' c' x y v r _ hn hn' HS.out HS'.out HN.out).mono ?_
      rintro e w1 ⟨rfl, hb⟩
      have HB1 := hide (below_left HB.out hb (by simp))
      clear hb
      go_wp2_with fail
      refine (implTaperOf_no _ _ _ _ _ HT.out).mono ?_
      rintro e w2 ⟨rfl, hb⟩
      have HB2 := hide (below_left HB1.out hb HB1.out.size)
      clear hb
      go_wp2_with fail
      go_ret2
      exact ⟨ret_no HH.out, HB2.out⟩
  · have HN := hide hcan
    have HH := hide (show ¬ ntP x y n n' full start rate v r from fun h => hcan h.1)
    by_cases htap : tapP full start rate v
    · have HT := hide htap
      clear hcan htap
      go_enter Try.func82, Try.ntmps82
      go_wp2_with fail
      refine (implNetOf_no A A' n c n' c' x y v r _ hn hn' HS.out HS'.out HN.out).mono ?_
      rintro e w1 ⟨rfl, hb⟩
      have HB1 := hide (below_left HB.out hb (by simp))
      clear hb
      go_wp2_with fail
      refine (implTaperOf_yes _ _ _ _ _ HT.out).mono ?_
      rintro e w2 ⟨rfl, hb⟩
      have HB2 := hide (below_left HB1.out hb HB1.out.size)
      clear hb
      go_wp2_with fail
      go_ret2
      exact ⟨ret_no HH.out, HB2.out⟩
    · have HT := hide htap
      clear hcan htap
      go_enter Try.func82, Try.ntmps82
      go_wp2_with fail
      refine (implNetOf_no A A' n c n' c' x y v r _ hn hn' HS.out HS'.out HN.out).mono ?_
      rintro e w1 ⟨rfl, hb⟩
      have HB1 := hide (below_left HB.out hb (by simp))
      clear hb
      go_wp2_with fail
      refine (implTaperOf_no _ _ _ _ _ HT.out).mono ?_
      rintro e w2 ⟨rfl, hb⟩
      have HB2 := hide (below_left HB1.out hb HB1.out.size)
      clear hb
      go_wp2_with fail
      go_ret2
      exact ⟨ret_no HH.out, HB2.out⟩

end Go.Proofs.Ytbcajjpgpjadaaa
