/- Dues and nets, by the reference. -/
import Derived.Test.YtfkndehhepplbabDu
import Derived.Test.YtfkndehhepplbabRd
namespace Go.Proofs.Ytfkndehhepplbab
open Go.RowKit Go.Dues
/-- what a scale by a pointer is: its cells and lists -/
def canP (x y : Nat → Int) (n m : Nat) (v r : Int) : Prop := Val x y n m ∧ (0 ≤ v ∧ v ≤ 1000000000000) ∧ (0 ≤ r ∧ r ≤ 3)

set_option maxHeartbeats 1000000 in
theorem specCan_any (b : Nat) (A A' : Option Addr) (n c n' c' : Nat) (x y : Nat → Int) (v r : Int) (w : World) (hn : n ≤ maxLen) (hn' : n' ≤ maxLen) (hc0 : w.cell? ⟨b, 0, none⟩ = some (.slice A n c)) (hc1 : w.cell? ⟨b, 1, none⟩ = some (.slice A' n' c'))
    (hs : SL w A n (fun j => .int .i64 (x j))) (hs' : SL w A' n' (fun j => .int .i64 (y j))) :
    Calls Try.prog 62 #[.pointer (some ⟨b, 0, none⟩), .int .i64 v, .int .i64 r] w fun e w' => e = .returned (.bool (tru (canP x y n n' v r))) ∧ ∃ q, w' = w.drewN q := by
  have HI := hide (specIs_any b A A' n c n' c' x y w hn hn' hc0 hc1 hs hs')
  clear hs hs' hc0 hc1
  by_cases hv : Val x y n n'
  · have hvt := tru_yes hv
    cases ha : amtB v
    · have HF := hide (tru_no (p := canP x y n n' v r) (fun h => by rw [amtB_yes h.2.1] at ha; cases ha))
      clear hv
      go_enter Try.func62, Try.ntmps62
      go_wp2_with (first | (go_at_call 111; refine HI.out.mono ?_; rintro e w' ⟨rfl, q, rfl⟩) | (go_at_call 78; refine (specCents_any _ _).mono ?_; rintro e w' ⟨rfl, rfl⟩))
      go_ret
      exact ⟨retb HF.out.symm, _, rfl⟩
    · cases hr : wayB r
      · have HF := hide (tru_no (p := canP x y n n' v r) (fun h => by rw [wayB_yes h.2.2] at hr; cases hr))
        clear hv
        go_enter Try.func62, Try.ntmps62
        go_wp2_with (first | (go_at_call 111; refine HI.out.mono ?_; rintro e w' ⟨rfl, q, rfl⟩) | (go_at_call 78; refine (specCents_any _ _).mono ?_; rintro e w' ⟨rfl, rfl⟩) | (go_at_call 112; refine (specWay_any _ _).mono ?_; rintro e w' ⟨rfl, rfl⟩))
        go_ret
        exact ⟨retb HF.out.symm, _, rfl⟩
      · have HF := hide (tru_yes (p := canP x y n n' v r) ⟨hv, amtB_iff.1 ha, wayB_iff.1 hr⟩)
        clear hv
        go_enter Try.func62, Try.ntmps62
        go_wp2_with (first | (go_at_call 111; refine HI.out.mono ?_; rintro e w' ⟨rfl, q, rfl⟩) | (go_at_call 78; refine (specCents_any _ _).mono ?_; rintro e w' ⟨rfl, rfl⟩) | (go_at_call 112; refine (specWay_any _ _).mono ?_; rintro e w' ⟨rfl, rfl⟩))
        go_ret
        exact ⟨retb HF.out.symm, _, rfl⟩
  · have hvt := tru_no hv
    have HF := hide (tru_no (p := canP x y n n' v r) (fun h => hv h.1))
    clear hv
    go_enter Try.func62, Try.ntmps62
    go_wp2_with (first | (go_at_call 111; refine HI.out.mono ?_; rintro e w' ⟨rfl, q, rfl⟩))
    go_ret
    exact ⟨retb HF.out.symm, _, rfl⟩

theorem specDue_any (b : Nat) (A A' : Option Addr) (n c n' c' : Nat) (x y : Nat → Int) (v r : Int) (w : World) (hc0 : w.cell? ⟨b, 0, none⟩ = some (.slice A n c)) (hc1 : w.cell? ⟨b, 1, none⟩ = some (.slice A' n' c'))
    (hs : SL w A n (fun j => .int .i64 (x j))) (hs' : SL w A' n' (fun j => .int .i64 (y j))) (h : canP x y n n' v r) :
    Calls Try.prog 120 #[.pointer (some ⟨b, 0, none⟩), .int .i64 v, .int .i64 r] w fun e w' => e = .returned (.int .i64 (dueV x y n v r)) ∧ ∃ q, w' = w.drewN q := by
  obtain ⟨hv, ⟨h0, h1⟩, hr⟩ := h
  have HX := hide (specExact_any b A A' n c n' c' x y v w hc0 hc1 hs hs' hv h0 h1)
  have HD := hide (xdue_bd hv h0)
  have HR := hide hr
  have H1 := hide h1
  clear hs hs' hc0 hc1 hv h0 h1 hr
  go_enter Try.func120, Try.ntmps120
  go_wp2_with fail
  refine HX.out.mono ?_
  rintro e w' ⟨rfl, q, rfl⟩
  go_wp2_with fail
  refine (specRound_any _ _ _ _ HD.out.1 (by have := HD.out.2; have := H1.out; omega) (by omega) (by omega) HR.out).mono ?_
  rintro e w' ⟨rfl, rfl⟩
  go_wp2_with fail
  go_ret
  exact ⟨rfl, _, rfl⟩

theorem specNet_any (b : Nat) (A A' : Option Addr) (n c n' c' : Nat) (x y : Nat → Int) (v r : Int) (w : World) (hc0 : w.cell? ⟨b, 0, none⟩ = some (.slice A n c)) (hc1 : w.cell? ⟨b, 1, none⟩ = some (.slice A' n' c'))
    (hs : SL w A n (fun j => .int .i64 (x j))) (hs' : SL w A' n' (fun j => .int .i64 (y j))) (h : canP x y n n' v r) :
    Calls Try.prog 76 #[.pointer (some ⟨b, 0, none⟩), .int .i64 v, .int .i64 r] w fun e w' => e = .returned (.int .i64 (v - dueV x y n v r)) ∧ ∃ q, w' = w.drewN q := by
  have HX := hide (specDue_any b A A' n c n' c' x y v r w hc0 hc1 hs hs' h)
  obtain ⟨hd0, hd1⟩ := dueV_bd (r := r) h.1 h.2.1.1
  obtain ⟨h0, h1⟩ := h.2.1
  clear hs hs' hc0 hc1 h
  go_enter Try.func76, Try.ntmps76
  go_wp2_with (go_at_call 120; refine HX.out.mono ?_; rintro e w' ⟨rfl, q, rfl⟩)
  go_ret
  exact ⟨rfl, _, rfl⟩


end Go.Proofs.Ytfkndehhepplbab
