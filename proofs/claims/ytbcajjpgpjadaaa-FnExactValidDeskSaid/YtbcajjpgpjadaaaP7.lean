/- Pensions: the plain arithmetic of careers, of the best span, of funds and of draws; no program is read here. -/
import Derived.Test.YtbcajjpgpjadaaaP4
namespace Go.Dues
open Go.RowKit
theorem psum_capM {x : Nat → Int} {n : Nat} {M : Int} (h : ∀ j, j < n → 0 ≤ x j ∧ x j ≤ M) : 0 ≤ psum x n ∧ psum x n ≤ M * n := by
  refine ⟨(psum_bd (fun j hj => (h j hj).1) (Nat.le_refl n)).1, ?_⟩
  have h1 : ∀ k, k ≤ n → psum x k ≤ M * k := by
    intro k
    induction k with
    | zero => intro _; simp [psum]
    | succ k ih =>
      intro hk
      have := ih (by omega)
      have := (h k (by omega)).2
      rw [psum_succ]; push_cast; rw [Int.mul_add]; omega
  exact h1 n (Nat.le_refl _)

/-! ### points that are split -/
def hfV (a b : Int) : Int := (a - b).tdiv 2
theorem hf_pos {a b : Int} (h : b ≤ a) : hfV a b = (a - b) / 2 := by
  unfold hfV
  rw [Int.tdiv_eq_ediv_of_nonneg (by omega)]
theorem hf_neg {a b : Int} (h : a ≤ b) : hfV a b = -((b - a) / 2) := by
  unfold hfV
  rw [show a - b = -(b - a) by omega, Int.neg_tdiv, Int.tdiv_eq_ediv_of_nonneg (by omega)]
theorem hf_bd {a b M : Int} (ha : 0 ≤ a ∧ a ≤ M) (hb : 0 ≤ b ∧ b ≤ M) : (0 ≤ a - hfV a b ∧ a - hfV a b ≤ M) ∧ (0 ≤ b + hfV a b ∧ b + hfV a b ≤ M) ∧ -M ≤ hfV a b ∧ hfV a b ≤ M := by
  rcases Int.le_total b a with h | h
  · rw [hf_pos h]; omega
  · rw [hf_neg h]; omega
/-- points of one, and of two, behind the years from f on, before t -/
def spA (x y : Nat → Int) (f t : Int) (j : Nat) : Int := if f ≤ j ∧ (j : Int) < t then x j - hfV (x j) (y j) else x j
def spB (x y : Nat → Int) (f t : Int) (j : Nat) : Int := if f ≤ j ∧ (j : Int) < t then y j + hfV (x j) (y j) else y j
theorem spA_start (x y : Nat → Int) (f : Int) (j : Nat) : spA x y f f j = x j := if_neg (by omega)
theorem spB_start (x y : Nat → Int) (f : Int) (j : Nat) : spB x y f f j = y j := if_neg (by omega)
theorem spA_step (x y : Nat → Int) {f : Int} {t : Nat} (h : f ≤ t) (j : Nat) : spA x y f ((t : Int) + 1) j = if j = t then x t - hfV (x t) (y t) else spA x y f t j := by
  unfold spA
  by_cases hj : j = t
  · subst hj; rw [if_pos (by omega), if_pos rfl]
  · rw [if_neg hj]
    by_cases hc : f ≤ j ∧ (j : Int) < t
    · rw [if_pos hc, if_pos (by omega)]
    · rw [if_neg hc, if_neg (by omega)]
theorem spB_step (x y : Nat → Int) {f : Int} {t : Nat} (h : f ≤ t) (j : Nat) : spB x y f ((t : Int) + 1) j = if j = t then y t + hfV (x t) (y t) else spB x y f t j := by
  unfold spB
  by_cases hj : j = t
  · subst hj; rw [if_pos (by omega), if_pos rfl]
  · rw [if_neg hj]
    by_cases hc : f ≤ j ∧ (j : Int) < t
    · rw [if_pos hc, if_pos (by omega)]
    · rw [if_neg hc, if_neg (by omega)]
theorem spA_at (x y : Nat → Int) (f : Int) (t : Nat) : spA x y f t t = x t := if_neg (by omega)
theorem spB_at (x y : Nat → Int) (f : Int) (t : Nat) : spB x y f t t = y t := if_neg (by omega)

/-! ### the best span -/
def bsS (x : Nat → Int) (c i : Nat) : Int := psum (fun j => x (i + j)) c
theorem bsS_bd {x : Nat → Int} {n c i : Nat} (h : ∀ j, j < n → 0 ≤ x j ∧ x j ≤ 1000000000000) (hc : i + c ≤ n) (hn : n ≤ 60) : 0 ≤ bsS x c i ∧ bsS x c i ≤ 60000000000000 := by
  have := psum_capM (x := fun j => x (i + j)) (n := c) (M := 1000000000000) (fun j hj => h (i + j) (by omega))
  unfold bsS
  omega
theorem bX_one (z : Nat → Int) : bX z 1 = 0 := by
  have := bX_lt z (n := 1) (by omega)
  omega

/-! ### funds -/
def grV (c r d : Int) : Int := rnd (c * (10000 + r)) 10000 d
theorem gr_mul {c r M : Int} (h0 : 0 ≤ c) (h1 : c ≤ M) (r0 : -9999 ≤ r) (r1 : r ≤ 10000) : 0 ≤ c * (10000 + r) ∧ c * (10000 + r) ≤ M * 20000 := mul_bd h0 h1 (by omega) (by omega)
theorem gr_bd {c r d M : Int} (h0 : 0 ≤ c) (h1 : c ≤ M) (r0 : -9999 ≤ r) (r1 : r ≤ 10000) : 0 ≤ grV c r d ∧ grV c r d ≤ 2 * M + 1 := by
  have h := gr_mul h0 h1 r0 r1
  have h2 := rnd_bounds (a := c * (10000 + r)) (b := 10000) (r := d)
  unfold grV
  omega
def frG (x r : Nat → Int) (k : Nat) (c : Int) : Int := grV (c + x k) (r k) 2
def frN (x r : Nat → Int) (f : Int) (k : Nat) (c : Int) : Int := frG x r k c - frG x r k c * f / 10000
def frV (s : Int) (x r : Nat → Int) (f : Int) : Nat → Int
  | 0 => s
  | k + 1 => frN x r f k (frV s x r f k)
theorem frV_succ (s : Int) (x r : Nat → Int) (f : Int) (k : Nat) : frV s x r f (k + 1) = frN x r f k (frV s x r f k) := rfl
theorem fr_bd {x r : Nat → Int} {f c : Int} {k : Nat} (hc : 0 ≤ c ∧ c ≤ 1000000000000) (hx : 0 ≤ x k ∧ x k ≤ 1000000000000) (hr : -9999 ≤ r k ∧ r k ≤ 10000) (hf : 0 ≤ f ∧ f ≤ 10000) :
    (0 ≤ (c + x k) * (10000 + r k) ∧ (c + x k) * (10000 + r k) ≤ 40000000000000000) ∧ (0 ≤ frG x r k c ∧ frG x r k c ≤ 4000000000001) ∧ (0 ≤ frG x r k c * f ∧ frG x r k c * f ≤ 40000000000010000) ∧ (0 ≤ frG x r k c * f / 10000 ∧ frG x r k c * f / 10000 ≤ frG x r k c) ∧ 0 ≤ frN x r f k c ∧ frN x r f k c ≤ 4000000000001 := by
  have a := gr_mul (c := c + x k) (M := 2000000000000) (by omega) (by omega) hr.1 hr.2
  have b := gr_bd (c := c + x k) (M := 2000000000000) (d := 2) (by omega) (by omega) hr.1 hr.2
  have g0 : 0 ≤ frG x r k c ∧ frG x r k c ≤ 4000000000001 := by unfold frG; omega
  have m := mul_bd (a := frG x r k c) (M := 4000000000001) (N := 10000) g0.1 g0.2 hf.1 hf.2
  have m2 := mul_bd (a := frG x r k c) (M := frG x r k c) (N := 10000) g0.1 (Int.le_refl _) hf.1 hf.2
  refine ⟨⟨a.1, by omega⟩, g0, ⟨m.1, by omega⟩, ⟨by omega, by omega⟩, ?_⟩
  unfold frN
  omega
def frOk (s : Int) (x r : Nat → Int) (f : Int) (n : Nat) : Prop := ∀ k, k < n → frV s x r f (k + 1) ≤ 1000000000000
/-! ### draws -/
def dwN (r : Nat → Int) (d : Int) (k : Nat) (c : Int) : Int := max 0 (c - d) * (10000 + r k) / 10000
def dwV (s : Int) (r : Nat → Int) (d : Int) : Nat → Int
  | 0 => s
  | k + 1 => dwN r d k (dwV s r d k)
theorem dwV_succ (s : Int) (r : Nat → Int) (d : Int) (k : Nat) : dwV s r d (k + 1) = dwN r d k (dwV s r d k) := rfl
def dwC (s : Int) (r : Nat → Int) (d : Int) : Nat → Int
  | 0 => 0
  | k + 1 => dwC s r d k + if d ≤ dwV s r d k then 1 else 0
theorem dwC_succ (s : Int) (r : Nat → Int) (d : Int) (k : Nat) : dwC s r d (k + 1) = dwC s r d k + if d ≤ dwV s r d k then 1 else 0 := rfl
theorem dw_bd {r : Nat → Int} {d c : Int} {k : Nat} (hc : 0 ≤ c ∧ c ≤ 1000000000000) (hd : 0 ≤ d) (hr : -9999 ≤ r k ∧ r k ≤ 10000) : (0 ≤ max 0 (c - d) * (10000 + r k) ∧ max 0 (c - d) * (10000 + r k) ≤ 20000000000000000) ∧ 0 ≤ dwN r d k c ∧ dwN r d k c ≤ 2000000000000 := by
  have a := gr_mul (c := max 0 (c - d)) (M := 1000000000000) (by omega) (by omega) hr.1 hr.2
  unfold dwN
  exact ⟨⟨a.1, by omega⟩, by omega⟩
def dwOk (s : Int) (r : Nat → Int) (d : Int) (n : Nat) : Prop := ∀ k, k < n → dwV s r d (k + 1) ≤ 1000000000000
theorem dwC_bd (s : Int) (r : Nat → Int) (d : Int) : ∀ k, 0 ≤ dwC s r d k ∧ dwC s r d k ≤ k
  | 0 => ⟨Int.le_refl _, Int.le_refl _⟩
  | k + 1 => by
    have := dwC_bd s r d k
    rw [dwC_succ]
    split <;> omega
theorem dw_low {r : Nat → Int} {d c : Int} {k : Nat} (h : c < d) : dwN r d k c = 0 := by
  unfold dwN
  rw [show max 0 (c - d) = 0 by omega]
  simp
theorem dwN_nn {r : Nat → Int} {d c : Int} {k : Nat} (hr : -9999 ≤ r k) : 0 ≤ dwN r d k c := by
  unfold dwN
  have := Int.mul_nonneg (show 0 ≤ max 0 (c - d) by omega) (show 0 ≤ 10000 + r k by omega)
  omega
theorem dwV_nn {s : Int} {r : Nat → Int} {d : Int} {n : Nat} (hs : 0 ≤ s) (hr : ∀ j, j < n → -9999 ≤ r j) : ∀ k, k ≤ n → 0 ≤ dwV s r d k
  | 0, _ => hs
  | k + 1, hk => by rw [dwV_succ]; exact dwN_nn (hr k (by omega))
/-- as long as all draws were taken whole the years are all; behind the first that was not, nothing is left -/
theorem dwC_first {s : Int} {r : Nat → Int} {d : Int} {n : Nat} (hs : 0 ≤ s) (hr : ∀ j, j < n → -9999 ≤ r j) : ∀ k, k ≤ n → (dwC s r d k = k) ∨ (dwC s r d k < k ∧ 0 < d ∧ dwV s r d k = 0)
  | 0, _ => .inl rfl
  | k + 1, hk => by
    rw [dwC_succ]
    rcases dwC_first hs hr k (by omega) (d := d) with h1 | ⟨h1, h2, h3⟩
    · by_cases h : d ≤ dwV s r d k
      · left
        rw [if_pos h]
        push_cast; omega
      · right
        rw [if_neg h]
        have := dwV_nn (d := d) hs hr k (by omega)
        refine ⟨by push_cast; omega, by omega, ?_⟩
        rw [dwV_succ, dw_low (by omega)]
    · right
      rw [if_neg (by omega)]
      refine ⟨by push_cast; omega, h2, ?_⟩
      rw [dwV_succ, dw_low (by omega)]

/-! ### safe draws -/
def sfL (s : Int) (r : Nat → Int) (d : Int) : Nat → Int
  | 0 => s
  | k + 1 => min 1000000000000 (dwN r d k (sfL s r d k))
theorem sfL_succ (s : Int) (r : Nat → Int) (d : Int) (k : Nat) : sfL s r d (k + 1) = min 1000000000000 (dwN r d k (sfL s r d k)) := rfl
def sfP (s : Int) (r : Nat → Int) (n : Nat) (d : Int) : Prop := ∀ k, k < n → d ≤ sfL s r d k
theorem sfL_bd {s : Int} {r : Nat → Int} {d : Int} {n : Nat} (hs : 0 ≤ s ∧ s ≤ 1000000000000) (hr : ∀ j, j < n → -9999 ≤ r j ∧ r j ≤ 10000) : ∀ k, k ≤ n → 0 ≤ sfL s r d k ∧ sfL s r d k ≤ 1000000000000
  | 0, _ => hs
  | k + 1, hk => by
    have := dwN_nn (r := r) (d := d) (c := sfL s r d k) (k := k) (hr k (by omega)).1
    rw [sfL_succ]; omega
theorem dwN_mono {r : Nat → Int} {d d' c c' : Int} {k : Nat} (hr : -9999 ≤ r k) (hd : d ≤ d') (hc : c' ≤ c) : dwN r d' k c' ≤ dwN r d k c := by
  have := Int.mul_le_mul_of_nonneg_right (show max 0 (c' - d') ≤ max 0 (c - d) by omega) (show 0 ≤ 10000 + r k by omega)
  unfold dwN
  omega
theorem sfL_mono {s : Int} {r : Nat → Int} {d d' : Int} {n : Nat} (hr : ∀ j, j < n → -9999 ≤ r j ∧ r j ≤ 10000) (hd : d ≤ d') : ∀ k, k ≤ n → sfL s r d' k ≤ sfL s r d k
  | 0, _ => Int.le_refl _
  | k + 1, hk => by
    have h1 := sfL_mono (s := s) hr hd k (by omega)
    have h2 := dwN_mono (hr k (by omega)).1 hd h1
    rw [sfL_succ, sfL_succ]; omega
theorem sfP_mono {s : Int} {r : Nat → Int} {d d' : Int} {n : Nat} (hr : ∀ j, j < n → -9999 ≤ r j ∧ r j ≤ 10000) (hd : d ≤ d') (h : sfP s r n d') : sfP s r n d := fun k hk => by
  have := sfL_mono (s := s) hr hd k (by omega)
  have := h k hk
  omega
theorem sfP_zero {s : Int} {r : Nat → Int} {n : Nat} (hs : 0 ≤ s ∧ s ≤ 1000000000000) (hr : ∀ j, j < n → -9999 ≤ r j ∧ r j ≤ 10000) : sfP s r n 0 := fun k hk => (sfL_bd hs hr k (by omega)).1
noncomputable def sfG (s : Int) (r : Nat → Int) (n : Nat) : Nat → Nat
  | 0 => 0
  | k + 1 => @ite _ (sfP s r n ((k + 1 : Nat) : Int)) (Classical.propDecidable _) (k + 1) (sfG s r n k)
theorem sfG_eq {s : Int} {r : Nat → Int} {n m v : Nat} (hv : v ≤ m) (h1 : sfP s r n v) (h2 : ∀ d : Nat, v < d → d ≤ m → ¬ sfP s r n d) : sfG s r n m = v := by
  induction m with
  | zero => obtain rfl : v = 0 := by omega
            rfl
  | succ m ih =>
    unfold sfG
    by_cases h : v = m + 1
    · subst h; exact if_pos h1
    · rw [if_neg (h2 (m + 1) (by omega) (Nat.le_refl _))]
      exact ih (by omega) (fun d hd hm => h2 d hd (by omega))

/-! ### pays that are indexed -/
def ipV (x g : Nat → Int) (i : Nat) : Nat → Int
  | 0 => x i
  | k + 1 => grV (ipV x g i k) (g (i + k)) 1
theorem ipV_succ (x g : Nat → Int) (i k : Nat) : ipV x g i (k + 1) = grV (ipV x g i k) (g (i + k)) 1 := rfl
def ipOk (x g : Nat → Int) (n : Nat) : Prop := ∀ i k, i + k < n → ipV x g i k ≤ 1000000000000
theorem ipV_nn {x g : Nat → Int} {n i : Nat} (hx : ∀ j, j < n → 0 ≤ x j ∧ x j ≤ 1000000000000) (hg : ∀ j, j + 1 < n → 0 ≤ g j ∧ g j ≤ 10000) : ∀ k, i + k < n → 0 ≤ ipV x g i k
  | 0, hk => (hx i hk).1
  | k + 1, hk => by
    have h1 := ipV_nn hx hg k (i := i) (by omega)
    have h2 := hg (i + k) (by omega)
    rw [ipV_succ]
    exact (gr_bd (M := ipV x g i k) h1 (Int.le_refl _) (by omega) (by omega)).1
/-- the list in year y, when t of its pays have been brought to the next one -/
def ipS (x g : Nat → Int) (y t j : Nat) : Int := if j < t then ipV x g j (y + 1 - j) else ipV x g j (y - j)
theorem ipS_at (x g : Nat → Int) (y t : Nat) : ipS x g y t t = ipV x g t (y - t) := if_neg (by omega)
theorem ipS_step (x g : Nat → Int) (y t j : Nat) : ipS x g y (t + 1) j = if j = t then ipV x g t (y + 1 - t) else ipS x g y t j := by
  unfold ipS
  by_cases h : j = t
  · subst h; rw [if_pos (by omega), if_pos rfl]
  · rw [if_neg h]
    by_cases h2 : j < t
    · rw [if_pos h2, if_pos (by omega)]
    · rw [if_neg h2, if_neg (by omega)]
theorem ipS_next (x g : Nat → Int) (y j : Nat) : ipS x g y (y + 1) j = ipS x g (y + 1) 0 j := by
  unfold ipS
  rw [if_neg (by omega : ¬ j < 0)]
  by_cases h : j < y + 1
  · rw [if_pos h]
  · rw [if_neg h, show y - j = 0 by omega, show y + 1 - j = 0 by omega]
theorem ipS_start (x g : Nat → Int) (j : Nat) : ipS x g 0 0 j = x j := by
  unfold ipS
  rw [if_neg (by omega : ¬ j < 0), show 0 - j = 0 by omega]
  rfl
end Go.Dues
