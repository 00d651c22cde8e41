/- Chapter 4: the plain arithmetic of the first greatest and the first least, of quotients that go down, of traps and of units given one after another; no program is read here. -/
import Derived.Test.YtjndhcdanpnniaaScp
namespace Go.Dues
open Go.RowKit

/-! ### the first greatest -/
def bX (z : Nat → Int) : Nat → Nat
  | 0 => 0
  | k + 1 => if z (bX z k) < z k then k else bX z k
theorem bX_spec (z : Nat → Int) : ∀ n, (∀ j, j < n → z j ≤ z (bX z n)) ∧ (∀ j, j < bX z n → z j < z (bX z n)) ∧ (1 ≤ n → bX z n < n) ∧ (n = 0 → bX z n = 0)
  | 0 => ⟨fun j hj => absurd hj (by omega), fun j hj => absurd hj (by simp [bX]), fun h => absurd h (by omega), fun _ => rfl⟩
  | k + 1 => by
    obtain ⟨h1, h2, h3, h4⟩ := bX_spec z k
    have e : bX z (k + 1) = if z (bX z k) < z k then k else bX z k := rfl
    by_cases hz : z (bX z k) < z k
    · rw [if_pos hz] at e
      rw [e]
      refine ⟨fun j hj => ?_, fun j hj => ?_, fun _ => by omega, fun h => by omega⟩
      · by_cases hjk : j = k
        · rw [hjk]; exact Int.le_refl _
        · have := h1 j (by omega); omega
      · have := h1 j hj; omega
    · rw [if_neg hz] at e
      rw [e]
      refine ⟨fun j hj => ?_, h2, fun _ => ?_, fun h => by omega⟩
      · by_cases hjk : j = k
        · rw [hjk]; omega
        · exact h1 j (by omega)
      · by_cases hk : k = 0
        · rw [h4 hk]; omega
        · have := h3 (by omega); omega
theorem bX_max (z : Nat → Int) {n j : Nat} (hj : j < n) : z j ≤ z (bX z n) := (bX_spec z n).1 j hj
theorem bX_first (z : Nat → Int) {n j : Nat} (hj : j < bX z n) : z j < z (bX z n) := (bX_spec z n).2.1 j hj
theorem bX_lt (z : Nat → Int) {n : Nat} (h : 1 ≤ n) : bX z n < n := (bX_spec z n).2.2.1 h
theorem bX_le (z : Nat → Int) (n : Nat) : bX z n ≤ n := by
  by_cases h : n = 0
  · rw [(bX_spec z n).2.2.2 h]; omega
  · have := bX_lt z (n := n) (by omega); omega
theorem bX_yes {z : Nat → Int} {k : Nat} (h : z (bX z k) < z k) : bX z (k + 1) = k := if_pos h
theorem bX_no {z : Nat → Int} {k : Nat} (h : ¬ z (bX z k) < z k) : bX z (k + 1) = bX z k := if_neg h
theorem bX_unique {z : Nat → Int} {n i : Nat} (hi : i < n) (h1 : ∀ j, j < n → z j ≤ z i) (h2 : ∀ j, j < i → z j < z i) : bX z n = i := by
  have a := bX_max z hi
  have b := h1 _ (bX_lt z (n := n) (by omega))
  rcases Nat.lt_trichotomy (bX z n) i with h | h | h
  · have := h2 _ h; omega
  · exact h
  · have := bX_first z h; omega
theorem bX_congr {z y : Nat → Int} : ∀ {n : Nat}, (∀ j, j < n → z j = y j) → bX z n = bX y n
  | 0, _ => rfl
  | k + 1, h => by
    have ih := bX_congr (n := k) (fun j hj => h j (by omega))
    have hk := h k (by omega)
    have hb : z (bX z k) = y (bX y k) := by
      rw [ih]
      exact h _ (by have := bX_le y k; omega)
    show (if z (bX z k) < z k then k else bX z k) = (if y (bX y k) < y k then k else bX y k)
    rw [hb, hk, ih]
/-- the greatest of the first n -/
def mX (z : Nat → Int) : Nat → Int
  | 0 => z 0
  | k + 1 => max (mX z k) (z k)
theorem mX_eq (z : Nat → Int) : ∀ n, mX z n = z (bX z n)
  | 0 => rfl
  | k + 1 => by
    have ih := mX_eq z k
    show max (mX z k) (z k) = z (if z (bX z k) < z k then k else bX z k)
    split <;> omega
/-! ### the first least -/
def bN (z : Nat → Int) (n : Nat) : Nat := bX (fun j => -(z j)) n
theorem bN_min (z : Nat → Int) {n j : Nat} (hj : j < n) : z (bN z n) ≤ z j := by have := bX_max (fun j => -(z j)) hj; unfold bN; omega
theorem bN_first (z : Nat → Int) {n j : Nat} (hj : j < bN z n) : z (bN z n) < z j := by have := bX_first (fun j => -(z j)) hj; unfold bN; omega
theorem bN_lt (z : Nat → Int) {n : Nat} (h : 1 ≤ n) : bN z n < n := bX_lt _ h
theorem bN_le (z : Nat → Int) (n : Nat) : bN z n ≤ n := bX_le _ _
theorem bN_yes {z : Nat → Int} {k : Nat} (h : z k < z (bN z k)) : bN z (k + 1) = k := bX_yes (by unfold bN at h; omega)
theorem bN_no {z : Nat → Int} {k : Nat} (h : ¬ z k < z (bN z k)) : bN z (k + 1) = bN z k := bX_no (by unfold bN at h; omega)
def mN (z : Nat → Int) : Nat → Int
  | 0 => z 0
  | k + 1 => min (mN z k) (z k)
theorem mN_eq (z : Nat → Int) : ∀ n, mN z n = z (bN z n)
  | 0 => rfl
  | k + 1 => by
    have ih := mN_eq z k
    show min (mN z k) (z k) = _
    by_cases h : z k < z (bN z k)
    · rw [bN_yes h]; omega
    · rw [bN_no h]; omega

/-! ### quotients that go down -/
theorem down_spec {a s : Int} (hs : 1 ≤ s) : (a.tmod s + s).tmod s = a % s ∧ (a - a % s).tdiv s = a / s := by
  constructor
  · have h1 : -s < a.tmod s := Int.lt_tmod_of_pos a (by omega)
    rw [Int.tmod_eq_emod_of_nonneg (by omega)]
    have e : a.tmod s + s = a + s * (1 - a.tdiv s) := by
      rw [Int.tmod_def, Int.mul_sub, Int.mul_one]; omega
    rw [e, Int.add_mul_emod_self_left]
  · have e : a - a % s = s * (a / s) := by have := Int.mul_ediv_add_emod a s; omega
    rw [e, Int.mul_tdiv_cancel_left _ (by omega)]
theorem down_impl {a s : Int} (hs : 1 ≤ s) : a / s = -rnd (-a) s 3 := by
  have h1 := Int.mul_ediv_add_emod (-a) s
  have h2 : 0 ≤ -a % s := Int.emod_nonneg _ (by omega)
  have h3 : -a % s < s := Int.emod_lt_of_pos _ (by omega)
  unfold rnd
  by_cases h : 0 < -a % s
  · rw [if_pos ⟨rfl, h⟩]
    have : a / s = -(-a / s + 1) ∧ a % s = s - -a % s := (Int.ediv_emod_unique (by omega)).2 ⟨by rw [Int.mul_neg, Int.mul_add, Int.mul_one]; omega, by omega, by omega⟩
    exact this.1
  · have h0 : -a % s = 0 := by omega
    rw [if_neg (by omega), if_neg (by omega), if_neg (by omega)]
    have : a / s = -(-a / s) ∧ a % s = 0 := (Int.ediv_emod_unique (by omega)).2 ⟨by rw [Int.mul_neg]; omega, by omega, by omega⟩
    exact this.1

/-! ### traps -/
/-- how far behind i, of the first m places from i on, a net is at most that of i -/
def lnK (x : Nat → Int) (i : Nat) : Nat → Nat
  | 0 => 0
  | m + 1 => if x (i + m) ≤ x i then m else lnK x i m
theorem lnK_yes {x : Nat → Int} {i m : Nat} (h : x (i + m) ≤ x i) : lnK x i (m + 1) = m := if_pos h
theorem lnK_no {x : Nat → Int} {i m : Nat} (h : ¬ x (i + m) ≤ x i) : lnK x i (m + 1) = lnK x i m := if_neg h
theorem lnK_le (x : Nat → Int) (i : Nat) : ∀ m, lnK x i m ≤ m - 1
  | 0 => Nat.le_refl _
  | m + 1 => by
    have := lnK_le x i m
    by_cases h : x (i + m) ≤ x i
    · rw [lnK_yes h]; omega
    · rw [lnK_no h]; omega
/-- the length of the trap at i, of n nets -/
def trL (x : Nat → Int) (n i : Nat) : Int := (lnK x i (n - i) : Nat)
def trI (x : Nat → Int) (n : Nat) : Nat := bX (trL x n) n
def trM (x : Nat → Int) (n : Nat) : Int := trL x n (trI x n)
theorem trL_bd (x : Nat → Int) (n i : Nat) : 0 ≤ trL x n i ∧ trL x n i ≤ n := by
  have := lnK_le x i (n - i)
  unfold trL; omega
/-- the reference: the best place and the length, of the first i places -/
def trB (x : Nat → Int) (n i : Nat) : Nat := bX (trL x n) i
def trW (x : Nat → Int) (n i : Nat) : Int := if i = 0 then 0 else trL x n (trB x n i)
theorem trW_max (x : Nat → Int) (n i : Nat) : 0 ≤ trW x n i ∧ trW x n i ≤ n := by
  unfold trW
  split
  · omega
  · exact trL_bd x n _
theorem trW_succ (x : Nat → Int) (n i : Nat) : trW x n (i + 1) = max (trW x n i) (trL x n i) ∧ trB x n (i + 1) = if trW x n i < trL x n i then i else trB x n i := by
  have h0 := trL_bd x n 0
  by_cases hi : i = 0
  · subst hi
    have e0 : trB x n 0 = 0 := rfl
    have e1 : trB x n 1 = 0 := bX_no (z := trL x n) (k := 0) (Int.lt_irrefl _)
    refine ⟨?_, ?_⟩
    · have e2 : trW x n 1 = trL x n 0 := by unfold trW; rw [if_neg (by omega), e1]
      have e3 : trW x n 0 = 0 := by unfold trW; rw [if_pos rfl]
      show trW x n 1 = _
      rw [e2, e3]; omega
    · rw [e1, e0]; split <;> rfl
  · have e : trW x n i = trL x n (bX (trL x n) i) := by unfold trW trB; rw [if_neg hi]
    have e2 : trB x n (i + 1) = if trL x n (bX (trL x n) i) < trL x n i then i else bX (trL x n) i := rfl
    refine ⟨?_, ?_⟩
    · have e3 : trW x n (i + 1) = trL x n (trB x n (i + 1)) := by unfold trW; rw [if_neg (by omega)]
      rw [e3, e2, e]
      split <;> omega
    · rw [e2, e]; rfl

/-! ### units, one after another -/
/-- the next unit's place among the first k -/
def nxK (x s : Nat → Int) (t : Int) : Nat → Nat
  | 0 => 0
  | k + 1 => if x (nxK x s t k) * (t * s k + 1) < x k * (t * s (nxK x s t k) + 1) then k else nxK x s t k
theorem nxK_yes {x s : Nat → Int} {t : Int} {k : Nat} (h : x (nxK x s t k) * (t * s k + 1) < x k * (t * s (nxK x s t k) + 1)) : nxK x s t (k + 1) = k := if_pos h
theorem nxK_no {x s : Nat → Int} {t : Int} {k : Nat} (h : ¬ x (nxK x s t k) * (t * s k + 1) < x k * (t * s (nxK x s t k) + 1)) : nxK x s t (k + 1) = nxK x s t k := if_neg h
theorem nxK_lt (x s : Nat → Int) (t : Int) : ∀ k, nxK x s t (k + 1) < k + 1
  | 0 => by
    by_cases h : x (nxK x s t 0) * (t * s 0 + 1) < x 0 * (t * s (nxK x s t 0) + 1)
    · rw [nxK_yes h]; omega
    · rw [nxK_no h]; exact Nat.zero_lt_one
  | k + 1 => by
    have := nxK_lt x s t k
    by_cases h : x (nxK x s t (k + 1)) * (t * s (k + 1) + 1) < x (k + 1) * (t * s (nxK x s t (k + 1)) + 1)
    · rw [nxK_yes h]; omega
    · rw [nxK_no h]; omega
theorem nxK_one (x s : Nat → Int) (t : Int) : nxK x s t 1 = 0 := by have : nxK x s t 1 < 1 := nxK_lt x s t 0; omega
def dvS (x : Nat → Int) (n : Nat) (t : Int) : Nat → Nat → Int
  | 0 => fun _ => 0
  | u + 1 => fun j => if j = nxK x (dvS x n t u) t n then dvS x n t u j + 1 else dvS x n t u j
theorem dvS_bd (x : Nat → Int) (n : Nat) (t : Int) : ∀ u j, 0 ≤ dvS x n t u j ∧ dvS x n t u j ≤ u
  | 0, j => ⟨Int.le_refl _, Int.le_refl _⟩
  | u + 1, j => by
    have := dvS_bd x n t u j
    have e : dvS x n t (u + 1) j = if j = nxK x (dvS x n t u) t n then dvS x n t u j + 1 else dvS x n t u j := rfl
    rw [e]
    split <;> constructor <;> push_cast <;> omega
theorem dv_mul {a s t : Int} (a0 : 0 ≤ a) (a1 : a ≤ 1000000000) (s0 : 0 ≤ s) (s1 : s ≤ 1000) (ht : t = 1 ∨ t = 2) : (0 ≤ t * s ∧ t * s ≤ 2000) ∧ 0 ≤ a * (t * s + 1) ∧ a * (t * s + 1) ≤ 2001000000000 := by
  have h1 : 0 ≤ t * s ∧ t * s ≤ 2000 := by rcases ht with rfl | rfl <;> omega
  have h2 := mul_bd (N := 2001) a0 a1 (show 0 ≤ t * s + 1 by omega) (by omega)
  exact ⟨h1, h2.1, by omega⟩

/-! ### the greatest rests -/
def upd (z : Nat → Int) (i : Nat) (v : Int) : Nat → Int := fun j => if j = i then v else z j
theorem upd_same (z : Nat → Int) (i : Nat) (v : Int) : upd z i v i = v := if_pos rfl
theorem upd_ne (z : Nat → Int) {i j : Nat} (v : Int) (h : j ≠ i) : upd z i v j = z j := if_neg h
/-- the rests when t of them have been taken: taken ones are -1 -/
def rsT (z : Nat → Int) (n : Nat) : Nat → Nat → Int
  | 0 => z
  | t + 1 => upd (rsT z n t) (bX (rsT z n t) n) (-1)
/-- what has been given besides when t rests have been taken -/
def gvT (z : Nat → Int) (n : Nat) : Nat → Nat → Int
  | 0 => fun _ => 0
  | t + 1 => upd (gvT z n t) (bX (rsT z n t) n) (gvT z n t (bX (rsT z n t) n) + 1)
/-- how many of the first k are less than 0 -/
def ngK (z : Nat → Int) : Nat → Nat
  | 0 => 0
  | k + 1 => ngK z k + if z k < 0 then 1 else 0
theorem ngK_zero {z : Nat → Int} : ∀ {k : Nat}, (∀ j, j < k → 0 ≤ z j) → ngK z k = 0
  | 0, _ => rfl
  | k + 1, h => by
    have h1 := ngK_zero (k := k) (fun j hj => h j (by omega))
    have h2 := h k (by omega)
    show ngK z k + _ = 0
    rw [if_neg (by omega), h1]
theorem ngK_upd (z : Nat → Int) (i : Nat) (v : Int) : ∀ k, ngK (upd z i v) k ≤ ngK z k + if i < k then 1 else 0
  | 0 => Nat.zero_le _
  | k + 1 => by
    have h1 := ngK_upd z i v k
    show ngK (upd z i v) k + _ ≤ ngK z k + _ + _
    by_cases hi : i = k
    · subst hi
      rw [if_neg (by omega)] at h1
      rw [if_pos (show i < i + 1 by omega)]
      split <;> split <;> omega
    · rw [upd_ne z v (show k ≠ i from fun h => hi h.symm)]
      by_cases hik : i < k
      · rw [if_pos hik] at h1; rw [if_pos (show i < k + 1 by omega)]; omega
      · rw [if_neg hik] at h1; rw [if_neg (show ¬ i < k + 1 by omega)]; omega
theorem ngK_all {z : Nat → Int} : ∀ {k : Nat}, (∀ j, j < k → z j < 0) → ngK z k = k
  | 0, _ => rfl
  | k + 1, h => by
    have h1 := ngK_all (k := k) (fun j hj => h j (by omega))
    show ngK z k + _ = _
    rw [if_pos (h k (by omega)), h1]
theorem rsT_ng {z : Nat → Int} {n : Nat} (h : ∀ j, j < n → 0 ≤ z j) : ∀ t, ngK (rsT z n t) n ≤ t
  | 0 => by rw [show rsT z n 0 = z from rfl, ngK_zero h]; omega
  | t + 1 => by
    have h1 := rsT_ng h t
    have h2 := ngK_upd (rsT z n t) (bX (rsT z n t) n) (-1) n
    have h3 : (if bX (rsT z n t) n < n then 1 else 0) ≤ 1 := by split <;> omega
    show ngK (upd _ _ _) n ≤ _
    omega
/-- as long as fewer than n have been taken, one is left -/
theorem rsT_left {z : Nat → Int} {n t : Nat} (h : ∀ j, j < n → 0 ≤ z j) (ht : t < n) : 0 ≤ rsT z n t (bX (rsT z n t) n) := by
  have h1 := rsT_ng h t
  rcases Int.lt_or_le (rsT z n t (bX (rsT z n t) n)) 0 with hl | hl
  · have := ngK_all (z := rsT z n t) (k := n) (fun j hj => by have := bX_max (rsT z n t) hj; omega)
    omega
  · exact hl
theorem rsT_bd {z : Nat → Int} {n : Nat} {M : Int} (hM : 0 ≤ M) (h : ∀ j, 0 ≤ z j ∧ z j ≤ M) : ∀ t j, -1 ≤ rsT z n t j ∧ rsT z n t j ≤ M
  | 0, j => by have := h j; show -1 ≤ z j ∧ z j ≤ M; omega
  | t + 1, j => by
    have := rsT_bd (n := n) hM h t j
    show -1 ≤ upd _ _ _ j ∧ upd _ _ _ j ≤ M
    unfold upd
    split <;> omega
theorem gvT_bd (z : Nat → Int) (n : Nat) : ∀ t j, 0 ≤ gvT z n t j ∧ gvT z n t j ≤ t
  | 0, j => ⟨Int.le_refl _, Int.le_refl _⟩
  | t + 1, j => by
    have h1 := gvT_bd z n t j
    have h2 := gvT_bd z n t (bX (rsT z n t) n)
    show 0 ≤ upd _ _ _ j ∧ upd _ _ _ j ≤ _
    unfold upd
    split <;> constructor <;> push_cast <;> omega
/-- the reference's search: the first greatest of those that are not less than 0; none is told by b = k0 .. -/
def sbK (z : Nat → Int) : Nat → Int
  | 0 => -1
  | k + 1 => if 0 ≤ z k ∧ (sbK z k < 0 ∨ z (sbK z k).toNat < z k) then k else sbK z k
theorem sbK_yes {z : Nat → Int} {k : Nat} (h : 0 ≤ z k ∧ (sbK z k < 0 ∨ z (sbK z k).toNat < z k)) : sbK z (k + 1) = k := if_pos h
theorem sbK_no {z : Nat → Int} {k : Nat} (h : ¬ (0 ≤ z k ∧ (sbK z k < 0 ∨ z (sbK z k).toNat < z k))) : sbK z (k + 1) = sbK z k := if_neg h
theorem sbK_spec (z : Nat → Int) : ∀ k, (sbK z k = -1 ∧ ∀ j, j < k → z j < 0) ∨ (0 ≤ sbK z k ∧ sbK z k < k ∧ sbK z k = (bX z k : Nat) ∧ 0 ≤ z (bX z k))
  | 0 => .inl ⟨rfl, fun j hj => absurd hj (by omega)⟩
  | k + 1 => by
    rcases sbK_spec z k with ⟨h1, h2⟩ | ⟨h1, h2, h3, h4⟩
    · by_cases hz : 0 ≤ z k
      · rw [sbK_yes ⟨hz, .inl (by omega)⟩]
        have : bX z (k + 1) = k := bX_unique (by omega) (fun j hj => by
          by_cases hjk : j = k
          · rw [hjk]; exact Int.le_refl _
          · have := h2 j (by omega); omega) (fun j hj => by have := h2 j hj; omega)
        exact .inr ⟨by omega, by push_cast; omega, by rw [this], by rw [this]; exact hz⟩
      · rw [sbK_no (fun h => hz h.1)]
        exact .inl ⟨h1, fun j hj => by
          by_cases hjk : j = k
          · rw [hjk]; omega
          · exact h2 j (by omega)⟩
    · have e : (sbK z k).toNat = bX z k := by omega
      by_cases hz : z (bX z k) < z k
      · rw [sbK_yes ⟨by omega, .inr (by rw [e]; exact hz)⟩, bX_yes hz]
        exact .inr ⟨by omega, by push_cast; omega, rfl, by omega⟩
      · rw [sbK_no (fun h => by rcases h.2 with h | h
                                · omega
                                · rw [e] at h; exact hz h), bX_no hz]
        exact .inr ⟨h1, by push_cast; omega, h3, h4⟩
theorem sbK_end {z : Nat → Int} {n : Nat} (h : 0 ≤ z (bX z n)) (hn : 1 ≤ n) : sbK z n = (bX z n : Nat) := by
  rcases sbK_spec z n with ⟨_, h2⟩ | ⟨_, _, h3, _⟩
  · have := h2 _ (bX_lt z hn); omega
  · exact h3
/-- what is left when all parts have been rounded down is less than how many there are -/
theorem left_lt {x : Nat → Int} {n : Nat} {c S : Int} (hn : 1 ≤ n) (hS : psum x n = S) (S0 : 0 < S) :
    0 ≤ c - psum (fun j => c * x j / S) n ∧ c - psum (fun j => c * x j / S) n < n := by
  have key : ∀ k, k ≤ n → S * psum (fun j => c * x j / S) k ≤ c * psum x k ∧ c * psum x k ≤ S * psum (fun j => c * x j / S) k + (S - 1) * k := by
    intro k
    induction k with
    | zero => intro _; simp [psum]
    | succ k ih =>
      intro hk
      obtain ⟨i1, i2⟩ := ih (by omega)
      have e := Int.mul_ediv_add_emod (c * x k) S
      have m0 : 0 ≤ c * x k % S := Int.emod_nonneg _ (by omega)
      have m1 : c * x k % S < S := Int.emod_lt_of_pos _ S0
      rw [psum_succ, psum_succ, Int.mul_add, Int.mul_add]
      have e2 : (S - 1) * ((k + 1 : Nat) : Int) = (S - 1) * k + (S - 1) := by push_cast; rw [Int.mul_add, Int.mul_one]
      rw [e2]
      omega
  obtain ⟨k1, k2⟩ := key n (Nat.le_refl _)
  rw [hS] at k1 k2
  have e3 : c * S = S * c := Int.mul_comm _ _
  rw [e3] at k1 k2
  have hle : psum (fun j => c * x j / S) n ≤ c := Int.le_of_mul_le_mul_left k1 S0
  refine ⟨by omega, ?_⟩
  have e4 : S * (c - psum (fun j => c * x j / S) n) ≤ (S - 1) * n := by rw [Int.mul_sub]; omega
  have e5 : (S - 1) * (n : Int) < S * n := by rw [Int.sub_mul]; omega
  have e6 : S * (c - psum (fun j => c * x j / S) n) < S * n := by omega
  exact Int.lt_of_mul_lt_mul_left e6 (by omega)
end Go.Dues
