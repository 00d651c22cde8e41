/- What a valid scale is, by the reference. -/
import Derived.Test.YtjndhcdanpnniaaLs
import Derived.Test.YtjndhcdanpnniaaVp
namespace Go.Proofs.Ytjndhcdanpnniaa
open Go.RowKit Go.Dues

def Good (x y : Nat → Int) (j : Nat) : Prop := (0 ≤ x j ∧ x j ≤ 1000000000000) ∧ (∀ i, i + 1 = j → x i < x j) ∧ (0 ≤ y j ∧ y j ≤ 10000)
theorem val_of {x y : Nat → Int} {n : Nat} (h1 : 1 ≤ n) (h8 : n ≤ 8) (h0 : x 0 = 0) (h : ∀ j, j < n → Good x y j) : Val x y n n :=
  ⟨rfl, ⟨h1, h8, h0, fun j hj => (h j hj).1, fun j hj => (h (j + 1) hj).2.1 j rfl⟩, fun j hj => (h j hj).2.2⟩
theorem good_of {x y : Nat → Int} {n m : Nat} (h : Val x y n m) {k : Nat} (hk : k < n) : Good x y k :=
  ⟨h.amt k hk, fun i hi => by subst hi; exact h.up i hk, h.rate k hk⟩

end Go.Proofs.Ytjndhcdanpnniaa
