/- Rounding: fractions that are the same, and greater ones. -/
import Derived.Test.YtjebkagbknmdoaaScp
namespace Go.Dues
theorem rnd_scale {a b k r : Int} (hb : 0 < b) (hk : 0 < k) : rnd (a * k) (b * k) r = rnd a b r := by
  have e1 : a * k / (b * k) = a / b := Int.mul_ediv_mul_of_pos_left a b hk
  have e2 : a * k % (b * k) = a % b * k := by
    have h1 := Int.mul_ediv_add_emod (a * k) (b * k)
    rw [e1] at h1
    have h2 := Int.mul_ediv_add_emod a b
    have h3 : a * k = b * (a / b) * k + a % b * k := by rw [← Int.add_mul, h2]
    have h4 : b * k * (a / b) = b * (a / b) * k := Int.mul_right_comm _ _ _
    omega
  unfold rnd
  rw [e1, e2]
  have m0 := Int.emod_nonneg a (show b ≠ 0 by omega)
  have m1 := Int.emod_lt_of_pos a hb
  generalize a % b = m at *
  generalize a / b = q at *
  have c1 : 0 < m * k ↔ 0 < m := ⟨fun h => by
    by_cases h2 : m = 0
    · subst h2; simp at h
    · omega, fun h => Int.mul_pos h hk⟩
  have c2 : b * k - m * k = (b - m) * k := by rw [Int.sub_mul]
  have c3 : (b - m) * k ≤ m * k ↔ b - m ≤ m := ⟨fun h => Int.le_of_mul_le_mul_right h hk, fun h => Int.mul_le_mul_of_nonneg_right h (by omega)⟩
  have c4 : (b - m) * k < m * k ↔ b - m < m := ⟨fun h => Int.lt_of_mul_lt_mul_right h (by omega), fun h => Int.mul_lt_mul_of_pos_right h hk⟩
  have c5 : m * k = (b - m) * k ↔ m = b - m := ⟨fun h => Int.eq_of_mul_eq_mul_right (by omega) h, fun h => by rw [← h]⟩
  rw [c2]
  simp only [c1, c3, c4, c5]
theorem rnd_mono {a c b r : Int} (hb : 0 < b) (h : a ≤ c) : rnd a b r ≤ rnd c b r := by
  have h1 := rnd_bounds (a := a) (b := b) (r := r)
  have h2 := rnd_bounds (a := c) (b := b) (r := r)
  have hq : a / b ≤ c / b := Int.ediv_le_ediv hb h
  by_cases e : a / b = c / b
  · have e1 := Int.mul_ediv_add_emod a b
    have e2 := Int.mul_ediv_add_emod c b
    rw [e] at e1
    have hm : a % b ≤ c % b := by omega
    unfold rnd
    rw [e]
    generalize a % b = m at *
    generalize c % b = p at *
    generalize c / b = q at *
    clear e1 e2 h1 h2 hq h
    repeat' split
    all_goals omega
  · omega
end Go.Dues
