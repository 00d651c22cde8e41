/- Chapter 4: dues by rates, and the small functions, by both. -/
import Derived.Test.YtjndhcdanpnniaaB3
import Derived.Test.YtjndhcdanpnniaaAm
namespace Go.Proofs.Ytjndhcdanpnniaa
open Go.RowKit Go.Dues
def duV (c rate r : Int) : Int := rnd (c * rate) 10000 r
theorem duV_bd {c rate r : Int} (hc : 0 ≤ c) (h0 : 0 ≤ rate) (h1 : rate ≤ 10000) : 0 ≤ duV c rate r ∧ duV c rate r ≤ c := by
  have h2 := Int.mul_nonneg hc h0
  have h3 := Int.mul_le_mul_of_nonneg_left h1 hc
  unfold duV rnd
  split
  · omega
  · split
    · omega
    · split <;> omega
theorem mul_rate {c rate : Int} (hc : 0 ≤ c) (h1 : c ≤ 100000000000000) (r0 : 0 ≤ rate) (r1 : rate ≤ 10000) : 0 ≤ c * rate ∧ c * rate ≤ 1000000000000000000 := mul_bd hc h1 r0 r1
theorem bel_dN {B : Nat} {a w : World} (h : Below B a w) (n : Nat) : Below B a (w.drewN n) := ⟨h.os, h.tape, h.output, h.size, h.block⟩
theorem retbb {p q : Prop} {a b : Bool} (h : a = tru q) (h2 : b = tru p) : Ending.returned (.tuple #[.bool a, .bool b]) = .returned (.tuple #[.bool (tru q), .bool (tru p)]) := by rw [h, h2]
end Go.Proofs.Ytjndhcdanpnniaa
