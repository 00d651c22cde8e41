/- Chapter 4: dues by rates, and the small functions, by both. -/
import Derived.Test.YtpbbedelapnnnaaB3
import Derived.Test.YtpbbedelapnnnaaAm
namespace Go.Proofs.Ytpbbedelapnnnaa
open Go.RowKit Go.Dues
def duV (c rate r : Int) : Int := rnd (c * rate) 10000 r
theorem duV_bd {c rate r : Int} (hc : 0 ≤ c) (h0 : 0 ≤ rate) (h1 : rate ≤ 10000) : 0 ≤ duV c rate r ∧ duV c rate r ≤ c := by
  have h2 := Int.mul_nonneg hc h0
  have h3 := Int.mul_le_mul_of_nonneg_left h1 hc
  unfold duV rnd
  split
  · omega
  · split
    · omega
    · split <;> omega
theorem mul_rate {c rate : Int} (hc : 0 ≤ c) (h1 : c ≤ 100000000000000) (r0 : 0 ≤ rate) (r1 : rate ≤ 10000) : 0 ≤ c * rate ∧ c * rate ≤ 1000000000000000000 := mul_bd hc h1 r0 r1
theorem bel_dN {B : Nat} {a w : World} (h : Below B a w) (n : Nat) : Below B a (w.drewN n) := ⟨h.os, h.tape, h.output, h.size, h.block⟩
theorem retbb {p q : Prop} {a b : Bool} (h : a = tru q) (h2 : b = tru p) : Ending.returned (.tuple #[.bool a, .bool b]) = .returned (.tuple #[.bool (tru q), .bool (tru p)]) := by rw [h, h2]
theorem specDue4_any (c rate r : Int) (w : World) (c0 : 0 ≤ c) (c1 : c ≤ 100000000000000) (r0 : 0 ≤ rate ∧ rate ≤ 10000) (hr : 0 ≤ r ∧ r ≤ 3) :
    Calls Try.prog 200 #[.int .i64 c, .int .i64 rate, .int .i64 r] w fun e w' => e = .returned (.int .i64 (duV c rate r)) ∧ w = w' := by
  obtain ⟨p0, p1⟩ := mul_rate c0 c1 r0.1 r0.2
  have HR := hide (specRound_any (c * rate) 10000 r w p0 (by omega) (by omega) (by omega) hr)
  clear r0 hr
  go_enter Try.func200, Try.ntmps200
  go_wp2_with fail
  refine HR.out.mono ?_
  rintro e w' ⟨rfl, rfl⟩
  go_wp2
  go_ret
  exact ⟨rfl, rfl⟩
theorem implDue4_any (c rate r : Int) (w : World) (c0 : 0 ≤ c) (c1 : c ≤ 100000000000000) (r0 : 0 ≤ rate ∧ rate ≤ 10000) (hr : 0 ≤ r ∧ r ≤ 3) :
    Calls Try.prog 135 #[.int .i64 c, .int .i64 rate, .int .i64 r] w fun e w' => e = .returned (.int .i64 (duV c rate r)) ∧ ∃ q, w' = w.drewN q := by
  obtain ⟨p0, p1⟩ := mul_rate c0 c1 r0.1 r0.2
  have HR := hide (implRounded_any (c * rate) 10000 r w p0 (by omega) (by omega) (by omega) hr)
  clear r0 hr
  go_enter Try.func135, Try.ntmps135
  go_wp2_with fail
  refine HR.out.mono ?_
  rintro e w' ⟨rfl, q, rfl⟩
  go_wp2
  go_ret
  exact ⟨rfl, _, rfl⟩
theorem specMn_any (a b : Int) (w : World) : Calls Try.prog 102 #[.int .i64 a, .int .i64 b] w fun e w' => e = .returned (.int .i64 (min a b)) ∧ w = w' := by
  by_cases h : a < b
  · have HE := hide (show a = min a b by omega)
    go_enter Try.func102, Try.ntmps102
    go_wp2
    go_ret
    exact ⟨reti HE.out, rfl⟩
  · have HE := hide (show b = min a b by omega)
    go_enter Try.func102, Try.ntmps102
    go_wp2
    go_ret
    exact ⟨reti HE.out, rfl⟩
end Go.Proofs.Ytpbbedelapnnnaa
