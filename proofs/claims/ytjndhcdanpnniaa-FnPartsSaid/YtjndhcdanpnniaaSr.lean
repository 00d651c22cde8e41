/- Splits by weights, by the reference of chapter 3. -/
import Derived.Test.YtjndhcdanpnniaaSp
import Derived.Test.YtjndhcdanpnniaaTw
namespace Go.Proofs.Ytjndhcdanpnniaa
open Go.RowKit Go.Dues
theorem split_eq {c S x : Int} (S0 : 0 < S) : c / S * x + c % S * x / S = c * x / S ∧ c % S * x % S = c * x % S := by
  have h := Int.mul_ediv_add_emod c S
  have e : c * x = c % S * x + S * (c / S * x) := by
    have h2 : c * x = (S * (c / S) + c % S) * x := by rw [h]
    rw [h2, Int.add_mul, Int.mul_assoc]; omega
  rw [e]
  refine ⟨?_, ?_⟩
  · rw [Int.add_mul_ediv_left _ _ (by omega)]; omega
  · rw [Int.add_mul_emod_self_left]
end Go.Proofs.Ytjndhcdanpnniaa
