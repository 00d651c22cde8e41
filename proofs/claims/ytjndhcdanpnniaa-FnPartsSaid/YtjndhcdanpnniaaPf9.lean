/- Plain arithmetic of parts: they make the whole, and are near their quotas. -/
import Derived.Test.YtjndhcdanpnniaaP4
import Derived.Test.YtjndhcdanpnniaaC3
namespace Go.Dues
theorem psum_upd (f : Nat → Int) (i : Nat) (v : Int) : ∀ n, i < n → psum (upd f i v) n = psum f n + (v - f i)
  | 0, h => absurd h (by omega)
  | n + 1, h => by
    by_cases e : i = n
    · subst e
      have h0 : ∀ k, k ≤ i → psum (upd f i v) k = psum f k := by
        intro k
        induction k with
        | zero => intro _; rfl
        | succ k ih => intro hk; rw [psum_succ, psum_succ, ih (by omega), upd_ne f v (show k ≠ i by omega)]
      rw [psum_succ, psum_succ, h0 i (Nat.le_refl _), upd_same]; omega
    · rw [psum_succ, psum_succ, psum_upd f i v n (by omega), upd_ne f v (show n ≠ i by omega)]; omega
theorem psum_pos {f : Nat → Int} : ∀ {n : Nat}, 0 < psum f n → ∃ j, j < n ∧ 0 < f j
  | 0, h => absurd h (by show ¬ (0 : Int) < 0; omega)
  | n + 1, h => by
    rw [psum_succ] at h
    by_cases e : 0 < f n
    · exact ⟨n, by omega, e⟩
    · obtain ⟨j, hj, h1⟩ := psum_pos (f := f) (n := n) (by omega)
      exact ⟨j, by omega, h1⟩
theorem psum_zero (n : Nat) : psum (fun _ => 0) n = 0 := by
  induction n with
  | zero => rfl
  | succ n ih => rw [psum_succ, ih]; rfl
theorem psum_add (f g : Nat → Int) (n : Nat) : psum (fun j => f j + g j) n = psum f n + psum g n := by
  induction n with
  | zero => rfl
  | succ n ih => rw [psum_succ, psum_succ, psum_succ, ih]; omega
/-- taking the greatest rests one by one: each that is taken is greater than 0, and none is taken twice -/
theorem gv_inv {z : Nat → Int} {n : Nat} {S T : Int} (S0 : 0 < S) (h0 : ∀ j, 0 ≤ z j ∧ z j < S) (hT : psum z n = S * T) : ∀ t : Nat, (t : Int) ≤ T →
    (∀ j, (gvT z n t j = 0 ∧ rsT z n t j = z j) ∨ (gvT z n t j = 1 ∧ rsT z n t j = -1 ∧ 0 < z j)) ∧ psum (gvT z n t) n = t ∧ psum z n - (S - 1) * t ≤ psum (fun j => if gvT z n t j = 0 then z j else 0) n
  | 0, _ => by
    refine ⟨fun j => .inl ⟨rfl, rfl⟩, by rw [show gvT z n 0 = fun _ => 0 from rfl, psum_zero]; rfl, ?_⟩
    rw [show (fun j => if gvT z n 0 j = 0 then z j else 0) = z from by funext j; exact if_pos rfl]
    simp
  | t + 1, ht => by
    obtain ⟨i1, i2, i3⟩ := gv_inv S0 h0 hT t (by push_cast at ht; omega)
    have e1 : S * (t : Int) + S ≤ S * T := by
      have : S * ((t : Int) + 1) ≤ S * T := Int.mul_le_mul_of_nonneg_left (by push_cast at ht; omega) (by omega)
      rwa [Int.mul_add, Int.mul_one] at this
    have e2 : (S - 1) * (t : Int) = S * t - t := by rw [Int.sub_mul, Int.one_mul]
    have hp : 0 < psum (fun j => if gvT z n t j = 0 then z j else 0) n := by omega
    obtain ⟨j, hj, hz⟩ := psum_pos hp
    have hg : gvT z n t j = 0 := by
      rcases i1 j with h | h
      · exact h.1
      · rw [if_neg (by omega)] at hz; omega
    rw [if_pos hg] at hz
    have hr : rsT z n t j = z j := by
      rcases i1 j with h | h
      · exact h.2
      · omega
    obtain ⟨b, hb⟩ : ∃ b, bX (rsT z n t) n = b := ⟨_, rfl⟩
    have hm := bX_max (rsT z n t) hj
    have hbn := bX_lt (rsT z n t) (show 1 ≤ n by omega)
    rw [hb] at hm hbn
    have ib : gvT z n t b = 0 ∧ rsT z n t b = z b := by
      rcases i1 b with h | h
      · exact h
      · omega
    have hG : gvT z n (t + 1) = upd (gvT z n t) b (gvT z n t b + 1) := by show upd _ (bX _ _) _ = _; rw [hb]
    have hR : rsT z n (t + 1) = upd (rsT z n t) b (-1) := by show upd _ (bX _ _) _ = _; rw [hb]
    refine ⟨fun i => ?_, ?_, ?_⟩
    · by_cases e : i = b
      · subst e
        rw [hG, hR, upd_same, upd_same, ib.1]
        exact .inr ⟨rfl, rfl, by omega⟩
      · rw [hG, hR, upd_ne _ _ e, upd_ne _ _ e]
        exact i1 i
    · rw [hG, psum_upd _ _ _ _ hbn, i2]; push_cast; omega
    · have hF : (fun j => if gvT z n (t + 1) j = 0 then z j else 0) = upd (fun j => if gvT z n t j = 0 then z j else 0) b 0 := by
        funext i
        rw [hG]
        by_cases e : i = b
        · subst e; rw [upd_same, upd_same, ib.1]; exact if_neg (by omega)
        · rw [upd_ne _ _ e, upd_ne _ _ e]
      rw [hF, psum_upd _ _ _ _ hbn, if_pos ib.1]
      have e3 : (S - 1) * ((t + 1 : Nat) : Int) = (S - 1) * t + (S - 1) := by push_cast; rw [Int.mul_add, Int.mul_one]
      have := (h0 b).2
      omega
/-- greatest rests: the parts make the whole; a part is its quota, rounded down, or one more where something is left -/
theorem parts_ok {x : Nat → Int} {n : Nat} {c S : Int} (hn : 1 ≤ n) (hS : psum x n = S) (S0 : 0 < S) :
    psum (fun j => c * x j / S + gvT (fun j => c * x j % S) n (c - psum (fun j => c * x j / S) n).toNat j) n = c ∧
    ∀ j, gvT (fun j => c * x j % S) n (c - psum (fun j => c * x j / S) n).toNat j = 0 ∨ gvT (fun j => c * x j % S) n (c - psum (fun j => c * x j / S) n).toNat j = 1 ∧ 0 < c * x j % S := by
  have hl := left_lt (c := c) hn hS S0
  have key : ∀ k, psum (fun j => c * x j % S) k = c * psum x k - S * psum (fun j => c * x j / S) k := by
    intro k
    induction k with
    | zero => simp [psum]
    | succ k ih =>
      rw [psum_succ, psum_succ, psum_succ, ih, Int.mul_add, Int.mul_add]
      have := Int.mul_ediv_add_emod (c * x k) S
      omega
  have hT : psum (fun j => c * x j % S) n = S * (c - psum (fun j => c * x j / S) n) := by
    rw [key, hS, Int.mul_sub, Int.mul_comm S c]
  obtain ⟨g1, g2, _⟩ := gv_inv (z := fun j => c * x j % S) (n := n) S0 (fun j => ⟨Int.emod_nonneg _ (by omega), Int.emod_lt_of_pos _ S0⟩) hT (c - psum (fun j => c * x j / S) n).toNat (by omega)
  refine ⟨?_, fun j => ?_⟩
  · rw [psum_add (fun j => c * x j / S), g2]; omega
  · rcases g1 j with h | h
    · exact .inl h.1
    · exact .inr ⟨h.1, h.2.2⟩
theorem rnd_whole {c W : Int} (W0 : 0 < W) : rnd (c * W) W 1 = c := by
  unfold rnd
  have h1 : c * W % W = 0 := Int.mul_emod_left _ _
  have h2 : c * W / W = c := Int.mul_ediv_cancel _ (by omega)
  simp [h1, h2]; omega
/-- even parts -/
theorem even_sum {c m : Int} (m1 : 1 ≤ m) : ∀ k : Nat, psum (fun j => c / m + (if (j : Int) < c % m then 1 else 0)) k = k * (c / m) + (if (k : Int) < c % m then (k : Int) else c % m)
  | 0 => by
    have h0 := Int.emod_nonneg c (show m ≠ 0 by omega)
    show (0 : Int) = ((0 : Nat) : Int) * _ + _
    split <;> simp <;> omega
  | k + 1 => by
    have h0 := Int.emod_nonneg c (show m ≠ 0 by omega)
    rw [psum_succ, even_sum m1 k]
    have : ((k + 1 : Nat) : Int) * (c / m) = k * (c / m) + c / m := by push_cast; rw [Int.add_mul, Int.one_mul]
    rw [this]
    push_cast
    split <;> split <;> omega
theorem even_whole {c m : Int} (m1 : 1 ≤ m) : psum (fun j => c / m + (if (j : Int) < c % m then 1 else 0)) m.toNat = c := by
  rw [even_sum m1]
  have h1 := Int.emod_lt_of_pos c (show 0 < m by omega)
  have h2 := Int.mul_ediv_add_emod c m
  have e : ((m.toNat : Nat) : Int) = m := by omega
  rw [e, if_neg (by omega)]; omega
/-- a part, rounded down, near, and to the even one -/
theorem round3 {s b o : Int} (b0 : 0 ≤ b) (o1 : 1 ≤ o) : (rpV s b o 0 * o ≤ s * b ∧ s * b < (rpV s b o 0 + 1) * o) ∧ (2 * (rpV s b o 1 * o - s * b) ≤ o ∧ 2 * (s * b - rpV s b o 1 * o) ≤ o) ∧ (2 * (rpV s b o 2 * o - s * b) ≤ o ∧ 2 * (s * b - rpV s b o 2 * o) ≤ o) ∧
    (2 * (s * b - rpV s b o 0 * o) = o → rpV s b o 2 % 2 = 0 ∧ (0 < s * b ↔ rpV s b o 0 < rpV s b o 1)) := by
  have key : ∀ X : Int, 0 ≤ X → ∃ q r qo, X / o = q ∧ X % o = r ∧ q * o = qo ∧ (q + 1) * o = qo + o ∧ qo + r = X ∧ 0 ≤ r ∧ r < o ∧ 0 ≤ qo := by
    intro X hX
    refine ⟨X / o, X % o, X / o * o, rfl, rfl, rfl, by rw [Int.add_mul, Int.one_mul], ?_, Int.emod_nonneg _ (by omega), Int.emod_lt_of_pos _ (by omega), Int.mul_nonneg (Int.ediv_nonneg hX (by omega)) (by omega)⟩
    have := Int.mul_ediv_add_emod X o
    rw [Int.mul_comm] at this; exact this
  unfold rpV
  by_cases h : 0 ≤ s
  · simp only [if_pos h]
    obtain ⟨q, r, qo, e1, e2, e3, e4, e5, r0, r1, q0⟩ := key (s * b) (Int.mul_nonneg h b0)
    unfold rnd
    rw [e1, e2]
    have e6 : (q + 1 + 1) * o = qo + o + o := by rw [Int.add_mul, e4, Int.one_mul]
    refine ⟨?_, ?_, ?_, ?_⟩
    · simp only [show ¬ ((0 : Int) = 3) by omega, show ¬ ((0 : Int) = 1) by omega, show ¬ ((0 : Int) = 2) by omega, false_and, if_false]
      omega
    · simp only [show ¬ ((1 : Int) = 3) by omega, show ¬ ((1 : Int) = 2) by omega, false_and, if_false, true_and]
      split <;> simp only [e3, e4] <;> omega
    · simp only [show ¬ ((2 : Int) = 3) by omega, show ¬ ((2 : Int) = 1) by omega, false_and, if_false, true_and]
      split <;> simp only [e3, e4] <;> omega
    · simp only [show ¬ ((0 : Int) = 3) by omega, show ¬ ((0 : Int) = 1) by omega, show ¬ ((0 : Int) = 2) by omega, show ¬ ((1 : Int) = 3) by omega, show ¬ ((1 : Int) = 2) by omega, show ¬ ((2 : Int) = 3) by omega, show ¬ ((2 : Int) = 1) by omega, false_and, if_false, true_and, e3]
      intro hh
      rw [if_pos (show o - r ≤ r by omega)]
      constructor
      · split <;> omega
      · constructor <;> intro _ <;> omega
  · simp only [if_neg h]
    have hX : s * b = -(-s * b) := by rw [Int.neg_mul]; omega
    obtain ⟨q, r, qo, e1, e2, e3, e4, e5, r0, r1, q0⟩ := key (-s * b) (Int.mul_nonneg (by omega) b0)
    rw [hX]
    unfold rnd
    rw [e1, e2]
    have n1 : -q * o = -qo := by rw [Int.neg_mul, e3]
    have n2 : -(q + 1) * o = -(qo + o) := by rw [Int.neg_mul, e4]
    have n3 : (-q + 1) * o = -qo + o := by rw [Int.add_mul, n1, Int.one_mul]
    have n4 : (-(q + 1) + 1) * o = -qo := by rw [Int.add_mul, n2, Int.one_mul]; omega
    refine ⟨?_, ?_, ?_, ?_⟩
    · simp only [if_true, show ¬ ((3 : Int) = 1) by omega, show ¬ ((3 : Int) = 2) by omega, false_and, if_false, true_and]
      split <;> simp only [n1, n2, n3, n4] <;> omega
    · simp only [show ¬ ((1 : Int) = 0) by omega, show ¬ ((1 : Int) = 3) by omega, show ¬ ((1 : Int) = 2) by omega, false_and, if_false, true_and]
      split <;> simp only [n1, n2] <;> omega
    · simp only [show ¬ ((2 : Int) = 0) by omega, show ¬ ((2 : Int) = 3) by omega, show ¬ ((2 : Int) = 1) by omega, false_and, if_false, true_and]
      split <;> simp only [n1, n2] <;> omega
    · simp only [if_true, show ¬ ((1 : Int) = 0) by omega, show ¬ ((2 : Int) = 0) by omega, show ¬ ((3 : Int) = 1) by omega, show ¬ ((3 : Int) = 2) by omega, show ¬ ((1 : Int) = 3) by omega, show ¬ ((1 : Int) = 2) by omega, show ¬ ((2 : Int) = 3) by omega, show ¬ ((2 : Int) = 1) by omega, false_and, if_false, true_and]
      by_cases hr : 0 < r
      · rw [if_pos hr, n2]
        intro hh
        rw [if_pos (show o - r ≤ r by omega)]
        constructor
        · split <;> omega
        · constructor <;> intro _ <;> omega
      · rw [if_neg hr, n1]
        intro hh
        omega
end Go.Dues
