/- Weights of places, by both. -/
import Derived.Test.YtjndhcdanpnniaaAl
import Derived.Test.YtjndhcdanpnniaaC4
import Derived.Test.YtjndhcdanpnniaaG1
import Derived.Test.YtjndhcdanpnniaaP4
namespace Go.Proofs.Ytjndhcdanpnniaa
open Go.RowKit Go.Dues
def wgP (x : Nat → Int) (n : Nat) : Prop := (1 ≤ n ∧ n ≤ 12) ∧ (∀ j, j < n → 0 ≤ x j ∧ x j ≤ 1000000000) ∧ 0 < psum x n
theorem wgP_sum {x : Nat → Int} {n : Nat} (h : wgP x n) : 1 ≤ psum x n ∧ psum x n ≤ 12000000000 := by
  have h2 := psum_abs (M := 1000000000) (fun j hj => ⟨by have := (h.2.1 j hj).1; omega, (h.2.1 j hj).2⟩) n (Nat.le_refl _)
  have h3 := h.2.2
  have h4 := h.1.2
  omega
end Go.Proofs.Ytjndhcdanpnniaa
