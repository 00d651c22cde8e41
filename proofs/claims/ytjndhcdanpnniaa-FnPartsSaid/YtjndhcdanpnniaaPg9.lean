/- The law on parts: its weights, and what the functions make of them. -/
import Derived.Test.YtjndhcdanpnniaaPf9
import Derived.Test.YtjndhcdanpnniaaHs9
import Derived.Test.YtjndhcdanpnniaaSs
import Derived.Test.YtjndhcdanpnniaaEv
import Derived.Test.YtjndhcdanpnniaaRp
import Derived.Test.YtjndhcdanpnniaaBb
namespace Go.Proofs.Ytjndhcdanpnniaa
open Go.RowKit Go.Dues
def pwT (x : Nat → Int) (n : Nat) (j : Nat) : Int := b10V x n j 40 + (if j = 0 then 1 else 0)
theorem pw_bd (x : Nat → Int) (n j : Nat) : 0 ≤ pwT x n j ∧ pwT x n j ≤ 40 := by
  have := b10V_bd (x := x) (n := n) (i := (j : Int)) (N := 40) (by omega)
  unfold pwT
  split <;> omega
theorem pw_0 (x : Nat → Int) (n : Nat) : b10V x n ((0 : Nat) : Int) 40 + 1 = pwT x n 0 := by unfold pwT; rw [if_pos rfl]
theorem pw_s (x : Nat → Int) (n j : Nat) (h : j ≠ 0) : b10V x n (j : Int) 40 = pwT x n j := by unfold pwT; rw [if_neg h]; omega
theorem pw_sum (x : Nat → Int) (n K : Nat) : 0 ≤ psum (pwT x n) K ∧ psum (pwT x n) K ≤ 40 * K := by
  induction K with
  | zero => simp [psum]
  | succ K ih => rw [psum_succ]; have := pw_bd x n K; push_cast; omega
theorem pw_pos (x : Nat → Int) (n K : Nat) (hK : 1 ≤ K) : 1 ≤ psum (pwT x n) K := by
  have h1 := psum_mono (x := pwT x n) (n := K) (fun j _ => (pw_bd x n j).1) (K - 1) 1 (by omega)
  rw [show 1 + (K - 1) = K by omega] at h1
  have h2 : psum (pwT x n) 1 = pwT x n 0 := by rw [psum_succ]; show 0 + _ = _; omega
  have h3 := pw_0 x n
  have h4 := b10V_bd (x := x) (n := n) (i := ((0 : Nat) : Int)) (N := 40) (by omega)
  omega
theorem pw_we (x : Nat → Int) (n K : Nat) (h1 : 1 ≤ K) (h2 : K ≤ 24) : weP (pwT x n) K :=
  ⟨⟨h1, h2⟩, fun j _ => by have := pw_bd x n j; omega, by have := pw_pos x n K h1; omega⟩
theorem st_left {x : Nat → Int} {n : Nat} {c : Int} (h : weP x n) : ∀ k, k ≤ n → 1 ≤ k → psum x n - psum x k = 0 → ctK x n c k = 0
  | 0, _, h1, _ => absurd h1 (by omega)
  | k + 1, hk, _, hz => by
    have hb := behind_le h (show k < n by omega)
    rw [ctK_succ]
    by_cases hw : psum x n - psum x k = 0
    · have hk0 : k ≠ 0 := by
        intro e
        subst e
        have : psum x 0 = 0 := rfl
        exact h.2.2 (by omega)
      rw [st_left (c := c) h k (by omega) (by omega) hw]
      unfold partOf
      rw [if_pos hw]; rfl
    · unfold partOf
      rw [if_neg hw, show psum x n - psum x k = x k by omega, rnd_whole (by omega)]
      omega
theorem st_psum (x : Nat → Int) (n : Nat) (c : Int) : ∀ k, psum (stV x n c) k = c - ctK x n c k
  | 0 => by show (0 : Int) = c - c; omega
  | k + 1 => by
    rw [psum_succ, st_psum x n c k, ctK_succ]
    unfold stV; omega
theorem st_sum {x : Nat → Int} {n : Nat} {c : Int} (h : weP x n) : psum (stV x n c) n = c := by
  rw [st_psum, st_left h n (Nat.le_refl _) h.1.1 (by omega)]; omega
theorem st_bd {x : Nat → Int} {n : Nat} {c : Int} (h : weP x n) (c0 : 0 ≤ c) : ∀ k, k ≤ n → (0 ≤ ctK x n c k ∧ ctK x n c k ≤ c) ∧ ∀ j, j < k → 0 ≤ stV x n c j ∧ stV x n c j ≤ c
  | 0, _ => ⟨⟨c0, Int.le_refl _⟩, fun j hj => absurd hj (by omega)⟩
  | k + 1, hk => by
    obtain ⟨i1, i2⟩ := st_bd h c0 k (by omega)
    have hb := behind_le h (show k < n by omega)
    have hp : 0 ≤ partOf (ctK x n c k) (x k) (psum x n - psum x k) ∧ partOf (ctK x n c k) (x k) (psum x n - psum x k) ≤ ctK x n c k := by
      unfold partOf
      by_cases hw : psum x n - psum x k = 0
      · rw [if_pos hw]; omega
      · rw [if_neg hw]; exact part_bd i1.1 hb.1 hb.2.1 (by omega)
    refine ⟨by rw [ctK_succ]; omega, fun j hj => ?_⟩
    by_cases e : j = k
    · subst e; unfold stV; omega
    · exact i2 j (by omega)
theorem gave1_out {w w' : World} {e : Ending} {p : Prop} {n : Nat} {z : Nat → Int} (h : Gave1 w w' e p n z) (hp : p) : ∃ G d, e = .returned (.tuple #[.slice G n d, .bool true]) ∧ OW w' w.heap.size w'.heap.size G n (fun j => .int .i64 (z j)) ∧ Below w.heap.size w w' := by
  obtain ⟨G, d, h1, h2, h3⟩ := h
  rw [lenV_yes hp] at h1 h2
  rw [tru_yes hp] at h1
  exact ⟨G, d, h1, h2, h3⟩
/-- what SplitCents makes -/
theorem lr_ok {x : Nat → Int} {n : Nat} {c : Int} (h : weP x n) (c0 : 0 ≤ c) : psum (lrV x n c (psum x n)) n = c ∧ ∀ j, j < n → 0 ≤ lrV x n c (psum x n) j ∧
    (lrV x n c (psum x n) j = c * x j / psum x n ∨ lrV x n c (psum x n) j = c * x j / psum x n + 1 ∧ 0 < c * x j % psum x n) := by
  have hS := weP_sum h
  obtain ⟨h1, h2⟩ := parts_ok (c := c) h.1.1 rfl (show 0 < psum x n by omega)
  refine ⟨h1, fun j hj => ?_⟩
  have hq : 0 ≤ c * x j / psum x n := Int.ediv_nonneg (Int.mul_nonneg c0 (h.2.1 j hj).1) (by omega)
  have hv : lrV x n c (psum x n) j = c * x j / psum x n + gvT (fun j => c * x j % psum x n) n (c - psum (fun j => c * x j / psum x n) n).toNat j := rfl
  rw [hv]
  rcases h2 j with h3 | ⟨h3, h4⟩
  · rw [h3]; exact ⟨by omega, .inl (by omega)⟩
  · rw [h3]; exact ⟨by omega, .inr ⟨rfl, h4⟩⟩
theorem lr_le {x : Nat → Int} {n : Nat} {c : Int} (h : weP x n) (c0 : 0 ≤ c) (c1 : c ≤ 300000) {j : Nat} (hj : j < n) : lrV x n c (psum x n) j ≤ 1000000000 := by
  have hS := weP_sum h
  have h0 := (lr_ok h c0).2 j hj
  have hx := h.2.1 j hj
  have hb := behind_le h hj
  have hp := psum_bd (k := j) (fun i hi => (h.2.1 i hi).1) (Nat.le_of_lt hj)
  have h3 : c * x j / psum x n ≤ c := by
    have h4 : c * x j ≤ c * psum x n := Int.mul_le_mul_of_nonneg_left (by omega) c0
    have := Int.ediv_le_ediv (show 0 < psum x n by omega) h4
    rwa [Int.mul_ediv_cancel _ (by omega)] at this
  omega
theorem ev_bd {c m : Int} (c0 : 0 ≤ c) (c1 : c ≤ 300000) (m1 : 1 ≤ m) (j : Nat) : 0 ≤ evV c m j ∧ evV c m j ≤ 1000000000 := by
  have h1 := Int.ediv_nonneg c0 (show 0 ≤ m by omega)
  have h2 := Int.ediv_le_self (b := m) c0
  unfold evV
  split <;> omega
theorem ev_fall {c m : Int} (j : Nat) : evV c m (j + 1) ≤ evV c m j ∧ evV c m 0 - evV c m j ≤ 1 := by
  unfold evV
  constructor
  · split <;> split <;> omega
  · split <;> split <;> omega
theorem rp_lim {s b o : Int} (b0 : 0 ≤ b) (o1 : 1 ≤ o) (h0 : -3000 ≤ s * b) (h1 : s * b ≤ 3000) : -4000 ≤ rpV s b o 0 ∧ rpV s b o 0 ≤ 4000 := by
  obtain ⟨⟨h2, h3⟩, _⟩ := round3 (s := s) b0 o1
  generalize rpV s b o 0 = D at *
  generalize s * b = X at *
  constructor
  · rcases Int.lt_or_le D (-1) with hd | hd
    · have h4 : (D + 1) * o ≤ (D + 1) * 1 := Int.mul_le_mul_of_nonpos_left (by omega) (by omega)
      omega
    · omega
  · rcases Int.lt_or_le 0 D with hd | hd
    · have h4 : D * 1 ≤ D * o := Int.mul_le_mul_of_nonneg_left (by omega) (by omega)
      omega
    · omega
end Go.Proofs.Ytjndhcdanpnniaa
