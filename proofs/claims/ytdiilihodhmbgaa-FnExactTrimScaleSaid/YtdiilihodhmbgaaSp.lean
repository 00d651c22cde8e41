/- Splits by weights, by the program. -/
import Derived.Test.YtdiilihodhmbgaaWe
import Derived.Test.YtdiilihodhmbgaaGl
import Derived.Test.YtdiilihodhmbgaaBm
import Derived.Test.YtdiilihodhmbgaaOs
namespace Go.Proofs.Ytdiilihodhmbgaa
open Go.RowKit Go.Dues
theorem own_other {w : World} {B e size g c n : Nat} {xs : List Value} {p : Addr} {v : Value} (h : w.ownsRow B e size (.slice (some ⟨g, 0, none⟩) n c) n xs) (hne : p.block ≠ g) : (w.setCell p v).ownsRow B e size (.slice (some ⟨g, 0, none⟩) n c) n xs := by
  refine ⟨h.1, ?_⟩
  rcases h.2 with ⟨h0, _⟩ | ⟨g', cap, cur, h1, h2, h3, h4⟩
  · cases h0
  · simp only [Value.slice.injEq, Option.some.injEq, Addr.mk.injEq, and_true, true_and] at h1
    obtain ⟨rfl, rfl⟩ := h1
    exact .inr ⟨g, c, cur, rfl, h2, blk_set hne h3, h4⟩
def flZ (x : Nat → Int) (c S : Int) (j : Nat) : Int := c * x j / S
def rsZ (x : Nat → Int) (c S : Int) (j : Nat) : Int := c * x j % S
def lfN (x : Nat → Int) (n : Nat) (c S : Int) : Nat := (c - psum (flZ x c S) n).toNat
def lrV (x : Nat → Int) (n : Nat) (c S : Int) (j : Nat) : Int := flZ x c S j + gvT (rsZ x c S) n (lfN x n c S) j
theorem lf_eq {x : Nat → Int} {n : Nat} {c S : Int} (hn : 1 ≤ n) (hS : psum x n = S) (S0 : 0 < S) : c - psum (flZ x c S) n = (lfN x n c S : Nat) ∧ lfN x n c S < n := by
  obtain ⟨h1, h2⟩ := left_lt (x := x) (c := c) hn hS S0
  unfold lfN
  have e : flZ x c S = (fun j => c * x j / S) := rfl
  rw [e]
  omega
theorem sp_bd {x : Nat → Int} {n : Nat} {c S : Int} (hx : ∀ j, j < n → 0 ≤ x j ∧ x j ≤ 1000000000) (c0 : 0 ≤ c) (c1 : c ≤ 1000000000) (S0 : 0 < S) {j : Nat} (hj : j < n) :
    (0 ≤ c * x j ∧ c * x j ≤ 1000000000000000000) ∧ (0 ≤ flZ x c S j ∧ flZ x c S j ≤ 1000000000000000000) ∧ (0 ≤ rsZ x c S j ∧ rsZ x c S j < S) := by
  have h1 := mul_bd c0 c1 (hx j hj).1 (hx j hj).2
  have h2 : 0 ≤ c * x j / S := Int.ediv_nonneg h1.1 (by omega)
  have h3 : c * x j / S ≤ c * x j := Int.ediv_le_self _ h1.1
  refine ⟨⟨h1.1, by omega⟩, ⟨h2, by unfold flZ; omega⟩, Int.emod_nonneg _ (by omega), Int.emod_lt_of_pos _ S0⟩
theorem fl_le {x : Nat → Int} {n : Nat} {c S : Int} (hx : ∀ j, j < n → 0 ≤ x j ∧ x j ≤ 1000000000) (c0 : 0 ≤ c) (hS : psum x n = S) (S0 : 0 < S) {j : Nat} (hj : j < n) : flZ x c S j ≤ c := by
  have h1 := psum_bd (k := j + 1) (fun j hj => (hx j hj).1) (show j + 1 ≤ n by omega)
  have h2 := psum_bd (k := j) (fun j hj => (hx j hj).1) (show j ≤ n by omega)
  rw [psum_succ, hS] at h1
  have h3 : x j ≤ S := by omega
  have h4 : c * x j ≤ c * S := Int.mul_le_mul_of_nonneg_left h3 c0
  have h5 := Int.ediv_le_ediv S0 h4
  rw [Int.mul_ediv_cancel _ (by omega)] at h5
  exact h5
theorem gvT_at (z : Nat → Int) (n t j : Nat) : gvT z n (t + 1) j = if j = bX (rsT z n t) n then gvT z n t j + 1 else gvT z n t j := by
  show upd _ _ _ j = _
  unfold upd
  by_cases h : j = bX (rsT z n t) n
  · rw [if_pos h, if_pos h, h]
  · rw [if_neg h, if_neg h]
theorem rsT_at (z : Nat → Int) (n t j : Nat) : rsT z n (t + 1) j = if j = bX (rsT z n t) n then -1 else rsT z n t j := rfl
end Go.Proofs.Ytdiilihodhmbgaa
