/- Scales: the plain arithmetic of what is valid, of dues and of rounding; no program is read here. -/
import Derived.Below
namespace Go.Dues
open Go.RowKit

def Amt (c : Int) : Prop := 0 ≤ c ∧ c ≤ 1000000000000
def Rat1 (c : Int) : Prop := 0 ≤ c ∧ c ≤ 10000
def RWay (c : Int) : Prop := 0 ≤ c ∧ c ≤ 3
instance (c : Int) : Decidable (Amt c) := inferInstanceAs (Decidable (_ ∧ _))
instance (c : Int) : Decidable (Rat1 c) := inferInstanceAs (Decidable (_ ∧ _))
instance (c : Int) : Decidable (RWay c) := inferInstanceAs (Decidable (_ ∧ _))
def amtB (c : Int) : Bool := decide (Amt c)
def ratB (c : Int) : Bool := decide (Rat1 c)
def wayB (c : Int) : Bool := decide (RWay c)
theorem amtB_yes {c : Int} (h : 0 ≤ c ∧ c ≤ 1000000000000) : amtB c = true := decide_eq_true h
theorem amtB_no {c : Int} (h : ¬ (0 ≤ c ∧ c ≤ 1000000000000)) : amtB c = false := decide_eq_false h
theorem ratB_yes {c : Int} (h : 0 ≤ c ∧ c ≤ 10000) : ratB c = true := decide_eq_true h
theorem ratB_no {c : Int} (h : ¬ (0 ≤ c ∧ c ≤ 10000)) : ratB c = false := decide_eq_false h
theorem wayB_yes {c : Int} (h : 0 ≤ c ∧ c ≤ 3) : wayB c = true := decide_eq_true h
theorem wayB_no {c : Int} (h : ¬ (0 ≤ c ∧ c ≤ 3)) : wayB c = false := decide_eq_false h
theorem amtB_iff {c : Int} : amtB c = true ↔ 0 ≤ c ∧ c ≤ 1000000000000 := decide_eq_true_iff
theorem ratB_iff {c : Int} : ratB c = true ↔ 0 ≤ c ∧ c ≤ 10000 := decide_eq_true_iff
theorem wayB_iff {c : Int} : wayB c = true ↔ 0 ≤ c ∧ c ≤ 3 := decide_eq_true_iff
noncomputable def ifV (p : Prop) (v : Int) : Int := @ite _ p (Classical.propDecidable p) v 0
theorem ifV_yes {p : Prop} {v : Int} (h : p) : ifV p v = v := by unfold ifV; exact if_pos h
theorem ifV_no {p : Prop} {v : Int} (h : ¬ p) : ifV p v = 0 := by unfold ifV; exact if_neg h
/-- the first n breaks and rates are those of a scale -/
def Ups (x : Nat → Int) (n : Nat) : Prop := 1 ≤ n ∧ n ≤ 8 ∧ x 0 = 0 ∧ (∀ j, j < n → 0 ≤ x j ∧ x j ≤ 1000000000000) ∧ (∀ j, j + 1 < n → x j < x (j + 1))
def Val (x y : Nat → Int) (n m : Nat) : Prop := m = n ∧ Ups x n ∧ ∀ j, j < n → 0 ≤ y j ∧ y j ≤ 10000
noncomputable def tru (p : Prop) : Bool := @decide p (Classical.propDecidable p)
theorem tru_yes {p : Prop} (h : p) : tru p = true := by unfold tru; exact @decide_eq_true p (Classical.propDecidable p) h
theorem tru_no {p : Prop} (h : ¬ p) : tru p = false := by unfold tru; exact @decide_eq_false p (Classical.propDecidable p) h
theorem tru_congr {p q : Prop} (h : p ↔ q) : tru p = tru q := by rw [propext h]

theorem Val.n1 {x y : Nat → Int} {n m : Nat} (h : Val x y n m) : 1 ≤ n := h.2.1.1
theorem Val.n8 {x y : Nat → Int} {n m : Nat} (h : Val x y n m) : n ≤ 8 := h.2.1.2.1
theorem Val.x0 {x y : Nat → Int} {n m : Nat} (h : Val x y n m) : x 0 = 0 := h.2.1.2.2.1
theorem Val.amt {x y : Nat → Int} {n m : Nat} (h : Val x y n m) : ∀ j, j < n → 0 ≤ x j ∧ x j ≤ 1000000000000 := h.2.1.2.2.2.1
theorem Val.up {x y : Nat → Int} {n m : Nat} (h : Val x y n m) : ∀ j, j + 1 < n → x j < x (j + 1) := h.2.1.2.2.2.2
theorem Val.rate {x y : Nat → Int} {n m : Nat} (h : Val x y n m) : ∀ j, j < n → 0 ≤ y j ∧ y j ≤ 10000 := h.2.2
theorem ups_mono {x : Nat → Int} {n : Nat} (h : ∀ j, j + 1 < n → x j < x (j + 1)) : ∀ d i, i + d < n → x i ≤ x (i + d)
  | 0, _, _ => Int.le_refl _
  | d + 1, i, hi => by
    have h1 := ups_mono h d i (by omega)
    have h2 := h (i + d) (by omega)
    rw [show i + (d + 1) = i + d + 1 from rfl]; omega
theorem ups_le {x : Nat → Int} {n : Nat} (h : ∀ j, j + 1 < n → x j < x (j + 1)) {i k : Nat} (hik : i ≤ k) (hk : k < n) : x i ≤ x k := by
  have := ups_mono h (k - i) i (by omega)
  rwa [show i + (k - i) = k by omega] at this

/-! ### rounding -/
def rnd (a b r : Int) : Int :=
  if r = 3 ∧ 0 < a % b then a / b + 1
  else if r = 1 ∧ b - a % b ≤ a % b then a / b + 1
  else if r = 2 ∧ (b - a % b < a % b ∨ a % b = b - a % b ∧ a / b % 2 = 1) then a / b + 1
  else a / b
theorem rnd_bounds {a b r : Int} : a / b ≤ rnd a b r ∧ rnd a b r ≤ a / b + 1 := by
  unfold rnd
  split
  · omega
  · split
    · omega
    · split <;> omega

/-! ### the exact due -/
/-- the part of the amount between break k and the next one -/
def piece (x : Nat → Int) (n : Nat) (c : Int) (k : Nat) : Int := (if k + 1 < n ∧ x (k + 1) < c then x (k + 1) else c) - x k
def xsum (x y : Nat → Int) (n : Nat) (c : Int) : Nat → Int
  | 0 => 0
  | k + 1 => xsum x y n c k + if x k < c then piece x n c k * y k else 0
/-- how far the first k pieces go -/
def reach (x : Nat → Int) (n : Nat) (c : Int) (k : Nat) : Int := if k < n ∧ x k < c then x k else c
theorem mul_bd {a b M N : Int} (h0 : 0 ≤ a) (h1 : a ≤ M) (h2 : 0 ≤ b) (h3 : b ≤ N) : 0 ≤ a * b ∧ a * b ≤ M * N :=
  ⟨Int.mul_nonneg h0 h2, Int.mul_le_mul h1 h3 h2 (by omega)⟩
theorem xsum_bd {x y : Nat → Int} {n m : Nat} {c : Int} (h : Val x y n m) (hc : 0 ≤ c) : ∀ k, k ≤ n → 0 ≤ xsum x y n c k ∧ xsum x y n c k ≤ 10000 * reach x n c k
  | 0, _ => by
    unfold xsum reach
    have := h.x0
    refine ⟨Int.le_refl _, ?_⟩
    split <;> omega
  | k + 1, hk => by
    obtain ⟨h1, h2⟩ := xsum_bd h hc k (by omega)
    have hr := h.rate k (by omega)
    have ha := h.amt k (by omega)
    unfold xsum
    by_cases hx : x k < c
    · rw [if_pos hx]
      have hre : reach x n c k = x k := by unfold reach; rw [if_pos ⟨by omega, hx⟩]
      rw [hre] at h2
      have hp : 0 ≤ piece x n c k ∧ piece x n c k = reach x n c (k + 1) - x k := by
        unfold piece reach
        split
        · rename_i hh
          have := h.up k hh.1
          omega
        · omega
      have hm := mul_bd hp.1 (Int.le_refl _) hr.1 hr.2
      rw [hp.2] at hm ⊢
      constructor
      · omega
      · have : (reach x n c (k + 1) - x k) * 10000 = 10000 * reach x n c (k + 1) - 10000 * x k := by rw [Int.sub_mul]; omega
        omega
    · rw [if_neg hx]
      have hre : reach x n c k = c := by unfold reach; rw [if_neg (by omega)]
      have hre2 : reach x n c (k + 1) = c := by
        unfold reach
        by_cases hk1 : k + 1 < n
        · have := h.up k hk1
          rw [if_neg (by omega)]
        · rw [if_neg (by omega)]
      rw [hre] at h2; rw [hre2]
      omega
theorem xsum_stop {x y : Nat → Int} {n m : Nat} {c : Int} (h : Val x y n m) {k : Nat} (hk : k < n) (hx : ¬ x k < c) : ∀ d, k + d ≤ n → xsum x y n c (k + d) = xsum x y n c k
  | 0, _ => rfl
  | d + 1, hd => by
    show xsum x y n c (k + d) + (if x (k + d) < c then _ else 0) = _
    have := ups_le h.up (show k ≤ k + d by omega) (by omega)
    rw [if_neg (by omega), xsum_stop h hk hx d (by omega)]; omega
theorem xsum_end {x y : Nat → Int} {n m : Nat} {c : Int} (h : Val x y n m) {k : Nat} (hk : k < n) (hx : ¬ x k < c) : xsum x y n c n = xsum x y n c k := by
  have := xsum_stop h hk hx (n - k) (by omega)
  rwa [show k + (n - k) = n by omega] at this
theorem xsum_go {x y : Nat → Int} {n : Nat} {c : Int} {k : Nat} (hx : x k < c) : xsum x y n c (k + 1) = xsum x y n c k + piece x n c k * y k := by
  show _ + _ = _
  rw [if_pos hx]
def xdue (x y : Nat → Int) (n : Nat) (c : Int) : Int := xsum x y n c n
theorem xdue_bd {x y : Nat → Int} {n m : Nat} {c : Int} (h : Val x y n m) (hc : 0 ≤ c) : 0 ≤ xdue x y n c ∧ xdue x y n c ≤ 10000 * c := by
  have h1 := xsum_bd h hc n (Nat.le_refl _)
  have : reach x n c n = c := by unfold reach; rw [if_neg (by omega)]
  rw [this] at h1
  exact h1
def dueV (x y : Nat → Int) (n : Nat) (c r : Int) : Int := rnd (xdue x y n c) 10000 r
theorem dueV_bd {x y : Nat → Int} {n m : Nat} {c r : Int} (h : Val x y n m) (hc : 0 ≤ c) : 0 ≤ dueV x y n c r ∧ dueV x y n c r ≤ c := by
  have h1 := xdue_bd h hc
  unfold dueV rnd
  split
  · omega
  · split
    · omega
    · split <;> omega
/-- the rate at an amount: of the last break that is at most it -/
def rateK (x y : Nat → Int) (c : Int) : Nat → Int
  | 0 => 0
  | k + 1 => if x k ≤ c then y k else rateK x y c k
theorem rateK_stop {x y : Nat → Int} {n m : Nat} {c : Int} (h : Val x y n m) {k : Nat} (hk : k < n) (hx : ¬ x k ≤ c) : ∀ d, k + d ≤ n → rateK x y c (k + d) = rateK x y c k
  | 0, _ => rfl
  | d + 1, hd => by
    have h1 := ups_le h.up (show k ≤ k + d by omega) (by omega)
    have h2 := rateK_stop h hk hx d (by omega)
    show (if x (k + d) ≤ c then y (k + d) else rateK x y c (k + d)) = _
    rw [if_neg (by omega), h2]
theorem rateK_end {x y : Nat → Int} {n m : Nat} {c : Int} (h : Val x y n m) {k : Nat} (hk : k < n) (hx : ¬ x k ≤ c) : rateK x y c n = rateK x y c k := by
  have := rateK_stop h hk hx (n - k) (by omega)
  rwa [show k + (n - k) = n by omega] at this
theorem rateK_yes {x y : Nat → Int} {c : Int} {k : Nat} (hx : x k ≤ c) : rateK x y c (k + 1) = y k := by show (if _ then _ else _) = _; rw [if_pos hx]
theorem rateK_no {x y : Nat → Int} {c : Int} {k : Nat} (hx : ¬ x k ≤ c) : rateK x y c (k + 1) = rateK x y c k := by show (if _ then _ else _) = _; rw [if_neg hx]
theorem rateK_bd {x y : Nat → Int} {n m : Nat} {c : Int} (h : Val x y n m) : ∀ k, k ≤ n → 0 ≤ rateK x y c k ∧ rateK x y c k ≤ 10000
  | 0, _ => by unfold rateK; omega
  | k + 1, hk => by
    have := h.rate k (by omega)
    have := rateK_bd (c := c) h k (by omega)
    unfold rateK
    split <;> omega

/-! ### pays -/
def psum (x : Nat → Int) : Nat → Int
  | 0 => 0
  | k + 1 => psum x k + x k
theorem psum_succ (x : Nat → Int) (k : Nat) : psum x (k + 1) = psum x k + x k := rfl
theorem psum_mono {x : Nat → Int} {n : Nat} (h : ∀ j, j < n → 0 ≤ x j) : ∀ d k, k + d ≤ n → psum x k ≤ psum x (k + d)
  | 0, _, _ => Int.le_refl _
  | d + 1, k, hk => by
    have h1 := psum_mono h d k (by omega)
    have h2 := h (k + d) (by omega)
    rw [show k + (d + 1) = k + d + 1 from rfl, psum_succ]; omega
theorem psum_bd {x : Nat → Int} {n k : Nat} (h : ∀ j, j < n → 0 ≤ x j) (hk : k ≤ n) : 0 ≤ psum x k ∧ psum x k ≤ psum x n := by
  have h1 := psum_mono h k 0 (by omega)
  have h2 := psum_mono h (n - k) k (by omega)
  rw [show k + (n - k) = n by omega] at h2
  rw [show 0 + k = k by omega] at h1
  exact ⟨h1, h2⟩
theorem psum_top {x : Nat → Int} {n k : Nat} (h : ∀ j, j < n → 0 ≤ x j ∧ x j ≤ 1000000000000) (hk : k ≤ n) : 0 ≤ psum x k ∧ psum x k ≤ 1000000000000 * k := by
  refine ⟨(psum_bd (fun j hj => (h j hj).1) hk).1, ?_⟩
  induction k with
  | zero => exact Int.le_refl _
  | succ k ih =>
    have h1 := ih (by omega)
    have h2 := h k (by omega)
    rw [psum_succ]; push_cast; omega
def paysP (x : Nat → Int) (n : Nat) : Prop := 1 ≤ n ∧ n ≤ 60 ∧ (∀ j, j < n → 0 ≤ x j ∧ x j ≤ 1000000000000) ∧ psum x n ≤ 1000000000000
theorem dueV_zero {x y : Nat → Int} {n m : Nat} {r : Int} (h : Val x y n m) : dueV x y n 0 r = 0 := by
  have := dueV_bd (r := r) h (Int.le_refl 0)
  omega
/-- how many there are if all is well, none if not -/
noncomputable def lenV (p : Prop) (n : Nat) : Nat := @ite _ p (Classical.propDecidable p) n 0
theorem lenV_yes {p : Prop} {n : Nat} (h : p) : lenV p n = n := by unfold lenV; exact if_pos h
theorem lenV_no {p : Prop} {n : Nat} (h : ¬ p) : lenV p n = 0 := by unfold lenV; exact if_neg h
theorem lenV_le (p : Prop) (n : Nat) : lenV p n ≤ n := by unfold lenV; split <;> omega
end Go.Dues
