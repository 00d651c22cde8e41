/- Lists of amounts, by the reference; RefundShare, by both. -/
import Derived.Test.YtjndhcdanpnniaaAl
import Derived.Test.YtjndhcdanpnniaaC4
import Derived.Test.YtjndhcdanpnniaaG1
import Derived.Test.YtjndhcdanpnniaaP4
namespace Go.Proofs.Ytjndhcdanpnniaa
open Go.RowKit Go.Dues
def rfP (x : Nat → Int) (n : Nat) (a b : Int) : Prop := allP x n 1 32 0 1000000000000 ∧ (1 ≤ b ∧ b ≤ 10000) ∧ (0 ≤ a ∧ a ≤ b) ∧ psum x n * a / b ≤ 1000000000000
theorem rf_bd {x : Nat → Int} {n : Nat} {a b : Int} (h : allP x n 1 32 0 1000000000000) (hb : 1 ≤ b ∧ b ≤ 10000) (ha : 0 ≤ a ∧ a ≤ b) : (0 ≤ psum x n ∧ psum x n ≤ 32000000000000) ∧ (0 ≤ psum x n * a ∧ psum x n * a ≤ 320000000000000000) ∧ 0 ≤ psum x n * a / b ∧ psum x n * a / b ≤ psum x n * a := by
  have h1 := psum_top h.2 (Nat.le_refl n)
  have h2 := h.1.2
  have h3 := mul_bd (M := 32000000000000) (N := 10000) h1.1 (by omega) ha.1 (by omega)
  exact ⟨⟨h1.1, by omega⟩, ⟨h3.1, by omega⟩, Int.ediv_nonneg h3.1 (by omega), Int.ediv_le_self _ h3.1⟩
end Go.Proofs.Ytjndhcdanpnniaa
