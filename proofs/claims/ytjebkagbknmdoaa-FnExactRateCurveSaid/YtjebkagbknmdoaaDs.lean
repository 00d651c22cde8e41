/- Dues and nets, by the reference. -/
import Derived.Test.YtjebkagbknmdoaaDu
import Derived.Test.YtjebkagbknmdoaaRd
namespace Go.Proofs.Ytjebkagbknmdoaa
open Go.RowKit Go.Dues
/-- what a scale by a pointer is: its cells and lists -/
def canP (x y : Nat → Int) (n m : Nat) (v r : Int) : Prop := Val x y n m ∧ (0 ≤ v ∧ v ≤ 1000000000000) ∧ (0 ≤ r ∧ r ≤ 3)

theorem specDue_any (b : Nat) (A A' : Option Addr) (n c n' c' : Nat) (x y : Nat → Int) (v r : Int) (w : World) (hc0 : w.cell? ⟨b, 0, none⟩ = some (.slice A n c)) (hc1 : w.cell? ⟨b, 1, none⟩ = some (.slice A' n' c'))
    (hs : SL w A n (fun j => .int .i64 (x j))) (hs' : SL w A' n' (fun j => .int .i64 (y j))) (h : canP x y n n' v r) :
    Calls Try.prog 123 #[.pointer (some ⟨b, 0, none⟩), .int .i64 v, .int .i64 r] w fun e w' => e = .returned (.int .i64 (dueV x y n v r)) ∧ ∃ q, w' = w.drewN q := by
  obtain ⟨hv, ⟨h0, h1⟩, hr⟩ := h
  have HX := hide (specExact_any b A A' n c n' c' x y v w hc0 hc1 hs hs' hv h0 h1)
  have HD := hide (xdue_bd hv h0)
  have HR := hide hr
  have H1 := hide h1
  clear hs hs' hc0 hc1 hv h0 h1 hr
  go_enter Try.func123, Try.ntmps123
  go_wp2_with fail
  refine HX.out.mono ?_
  rintro e w' ⟨rfl, q, rfl⟩
  go_wp2_with fail
  refine (specRound_any _ _ _ _ HD.out.1 (by have := HD.out.2; have := H1.out; omega) (by omega) (by omega) HR.out).mono ?_
  rintro e w' ⟨rfl, rfl⟩
  go_wp2_with fail
  go_ret
  exact ⟨rfl, _, rfl⟩



end Go.Proofs.Ytjebkagbknmdoaa
