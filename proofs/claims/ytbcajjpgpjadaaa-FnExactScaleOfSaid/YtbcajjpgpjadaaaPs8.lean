/- The scale with dues, plainly. -/
import Derived.Test.YtbcajjpgpjadaaaVs
namespace Go.Dues
def soA (y : Nat → Int) (i : Nat) : Int := (y i - y (i - 1)) * 10000
def soX (x : Nat → Int) (i : Nat) : Int := x i - x (i - 1)
def soQ (x y : Nat → Int) (i : Nat) : Int := soA y i / soX x i
def soM (x y : Nat → Int) (i : Nat) : Prop := soA y i % soX x i = 0
def soR (x y : Nat → Int) (L : Int) (n j : Nat) : Int := if j + 1 < n then soQ x y (j + 1) else L
def soB (x : Nat → Int) (n : Nat) (y : Nat → Int) (m : Nat) : Prop := Ups x n ∧ m = n ∧ (∀ j, j < m → 0 ≤ y j ∧ y j ≤ 1000000000000) ∧ y 0 = 0
def soP (x : Nat → Int) (n : Nat) (y : Nat → Int) (m : Nat) (L : Int) : Prop := soB x n y m ∧ (∀ i, 1 ≤ i → i < n → soM x y i) ∧ ∀ j, j < n → 0 ≤ soR x y L n j ∧ soR x y L n j ≤ 10000
theorem so_val {x : Nat → Int} {n : Nat} {y : Nat → Int} {m : Nat} {L : Int} (h : soP x n y m L) : Val x (soR x y L n) n n := ⟨rfl, h.1.1, h.2.2⟩
theorem so_of {x : Nat → Int} {n : Nat} {y : Nat → Int} {m : Nat} {L : Int} (h : soB x n y m) (hm : ∀ i, 1 ≤ i → i < n → soM x y i) (hv : Val x (soR x y L n) n n) : soP x n y m L := ⟨h, hm, hv.2.2⟩
theorem soX_bd {x : Nat → Int} {n : Nat} (h : Ups x n) {i : Nat} (h1 : 1 ≤ i) (hi : i < n) : 1 ≤ soX x i ∧ soX x i ≤ 1000000000000 := by
  have h2 := h.2.2.2.2 (i - 1) (by omega)
  rw [show i - 1 + 1 = i by omega] at h2
  have h3 := h.2.2.2.1 i hi
  have h4 := h.2.2.2.1 (i - 1) (by omega)
  unfold soX; omega
theorem soA_bd {y : Nat → Int} {m i : Nat} (h : ∀ j, j < m → 0 ≤ y j ∧ y j ≤ 1000000000000) (hi : i < m) : -10000000000000000 ≤ soA y i ∧ soA y i ≤ 10000000000000000 := by
  have h3 := h i hi
  have h4 := h (i - 1) (by omega)
  unfold soA; omega
theorem so_div_bd {a s : Int} (h0 : -20000000000000000 ≤ a) (h1 : a ≤ 20000000000000000) (hs : 1 ≤ s) : -20000000000000001 ≤ a / s ∧ a / s ≤ 20000000000000000 := by
  have e := Int.mul_ediv_add_emod a s
  have m0 : 0 ≤ a % s := Int.emod_nonneg _ (by omega)
  have m1 : a % s < s := Int.emod_lt_of_pos _ (by omega)
  constructor
  · rcases Int.lt_or_le (a / s) 0 with h | h
    · have h5 : s * (a / s) ≤ 1 * (a / s) := Int.mul_le_mul_of_nonpos_right hs (by omega)
      rcases Int.lt_or_le (a / s) (-20000000000000001) with h7 | h7
      · have h8 : s * (a / s) ≤ s * (-20000000000000002) := Int.mul_le_mul_of_nonneg_left (by omega) (by omega)
        omega
      · exact h7
    · omega
  · rcases Int.lt_or_le (a / s) 0 with h | h
    · omega
    · have h5 : 1 * (a / s) ≤ s * (a / s) := Int.mul_le_mul_of_nonneg_right hs h
      omega
theorem soQ_bd {x y : Nat → Int} {n i : Nat} (h : Ups x n) (hy : ∀ j, j < n → 0 ≤ y j ∧ y j ≤ 1000000000000) (h1 : 1 ≤ i) (hi : i < n) : -20000000000000001 ≤ soQ x y i ∧ soQ x y i ≤ 20000000000000000 := by
  have a := soA_bd hy hi
  have b := soX_bd h h1 hi
  exact so_div_bd (by omega) (by omega) b.1
theorem so_yes {a b : Int} (h : a % b = 0) : a.tmod b = 0 ∧ a.tdiv b = a / b := by
  have hd := Int.dvd_of_emod_eq_zero h
  exact ⟨Int.tmod_eq_zero_of_dvd hd, Int.tdiv_eq_ediv_of_dvd hd⟩
theorem so_no {a b : Int} (h : ¬ a % b = 0) : ¬ a.tmod b = 0 := fun e => h (Int.emod_eq_zero_of_dvd (Int.dvd_of_tmod_eq_zero e))
theorem soR_in {x y : Nat → Int} {L : Int} {n j : Nat} (h : j + 1 < n) : soR x y L n j = soQ x y (j + 1) := if_pos h
theorem soR_last {x y : Nat → Int} {L : Int} {n j : Nat} (h : ¬ j + 1 < n) : soR x y L n j = L := if_neg h
/-- what the second loop's elements keep -/
def soK (x y : Nat → Int) (k : Nat) : Prop := ∀ i, i < k → (0 ≤ x i ∧ x i ≤ 1000000000000) ∧ (0 ≤ y i ∧ y i ≤ 1000000000000) ∧ (0 < i → x (i - 1) < x i)
theorem so_k {x y : Nat → Int} {n m k : Nat} {L : Int} (h : soP x n y m L) (hk : k ≤ n) : soK x y k := by
  intro i hi
  have hm := h.1.2.1
  refine ⟨h.1.1.2.2.2.1 i (by omega), h.1.2.2.1 i (by omega), fun h0 => ?_⟩
  have h2 := h.1.1.2.2.2.2 (i - 1) (by omega)
  rw [show i - 1 + 1 = i by omega] at h2
  exact h2
theorem soK_next {x y : Nat → Int} {k : Nat} (h : soK x y k) (hx : 0 ≤ x k ∧ x k ≤ 1000000000000) (hy : 0 ≤ y k ∧ y k ≤ 1000000000000) (hu : 0 < k → x (k - 1) < x k) : soK x y (k + 1) := by
  intro i hi
  rcases Nat.lt_or_ge i k with h3 | h3
  · exact h i h3
  · have e : i = k := by omega
    rw [e]; exact ⟨hx, hy, hu⟩
theorem so_back {x y : Nat → Int} {n : Nat} {L : Int} (hk : soK x y n) (h0 : y 0 = 0) (hm : ∀ i, 1 ≤ i → i < n → soM x y i) (hv : Val x (soR x y L n) n n) : soP x n y n L :=
  so_of ⟨hv.2.1, rfl, fun j hj => (hk j hj).2.1, h0⟩ hm hv
theorem soK_bd {x y : Nat → Int} {n i : Nat} (hk : soK x y n) (h1 : 1 ≤ i) (hi : i < n) : (1 ≤ soX x i ∧ soX x i ≤ 1000000000000) ∧ -10000000000000000 ≤ soA y i ∧ soA y i ≤ 10000000000000000 ∧ -20000000000000001 ≤ soQ x y i ∧ soQ x y i ≤ 20000000000000000 := by
  have a := hk i hi
  have b := hk (i - 1) (by omega)
  have c := a.2.2 (by omega)
  have e1 : 1 ≤ soX x i ∧ soX x i ≤ 1000000000000 := by unfold soX; omega
  have e2 := soA_bd (y := y) (m := n) (i := i) (fun j hj => (hk j hj).2.1) hi
  exact ⟨e1, e2.1, e2.2, so_div_bd (by omega) (by omega) e1.1⟩
theorem so_n {x y : Nat → Int} {n m : Nat} {L : Int} (h : soP x n y m L) : 1 ≤ n ∧ n ≤ 8 ∧ m = n ∧ y 0 = 0 ∧ 0 ≤ L ∧ L ≤ 10000 := by
  have h1 := h.1.1.1
  have h2 := h.2.2 (n - 1) (by omega)
  rw [soR_last (by omega)] at h2
  exact ⟨h1, h.1.1.2.1, h.1.2.1, h.1.2.2.2, h2.1, h2.2⟩
theorem so_next {x y : Nat → Int} {k : Nat} (h : ∀ i, 1 ≤ i → i < k → soM x y i) (hk : soM x y k) : ∀ i, 1 ≤ i → i < k + 1 → soM x y i := by
  intro i h1 h2
  rcases Nat.lt_or_ge i k with h3 | h3
  · exact h i h1 h3
  · have e : i = k := by omega
    rw [e]; exact hk
end Go.Dues
