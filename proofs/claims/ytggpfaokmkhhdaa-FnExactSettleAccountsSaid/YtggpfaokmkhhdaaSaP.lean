/- Accounts that are settled: plain arithmetic. -/
import Derived.Test.YtggpfaokmkhhdaaP4
import Derived.Test.YtggpfaokmkhhdaaAl
namespace Go.Proofs.Ytggpfaokmkhhdaa
open Go.RowKit Go.Dues
def seC (z : Nat → Int) (n : Nat) : Int := min (-(z (bN z n))) (z (bX z n))
def seN (z : Nat → Int) (n : Nat) (j : Nat) : Int := if j = bX z n then z j - seC z n else if j = bN z n then z j + seC z n else z j
def seB (x : Nat → Int) (n : Nat) : Nat → Nat → Int
  | 0 => x
  | t + 1 => seN (seB x n t) n
def seI (z : Nat → Int) (n : Nat) : Prop := psum z n = 0 ∧ ∀ j, j < n → -1000000000 ≤ z j ∧ z j ≤ 1000000000
theorem psum_le {z : Nat → Int} {M : Int} : ∀ {n : Nat}, (∀ j, j < n → z j ≤ M) → psum z n ≤ M * n
  | 0, _ => by simp [psum]
  | k + 1, h => by
    have ih := psum_le (n := k) (fun j hj => h j (by omega))
    have := h k (by omega)
    rw [psum_succ]; push_cast; rw [Int.mul_add]; omega
theorem psum_ge {z : Nat → Int} {M : Int} : ∀ {n : Nat}, (∀ j, j < n → M ≤ z j) → M * n ≤ psum z n
  | 0, _ => by simp [psum]
  | k + 1, h => by
    have ih := psum_ge (n := k) (fun j hj => h j (by omega))
    have := h k (by omega)
    rw [psum_succ]; push_cast; rw [Int.mul_add]; omega
theorem psum_zero {z : Nat → Int} : ∀ {n : Nat}, (∀ j, j < n → z j ≤ 0) → psum z n = 0 → ∀ j, j < n → z j = 0
  | 0, _, _, j, hj => absurd hj (by omega)
  | k + 1, h, hs, j, hj => by
    have h1 := psum_le (M := 0) (n := k) (fun j hj => h j (by omega))
    have h2 := h k (by omega)
    rw [psum_succ] at hs
    by_cases hk : j = k
    · subst hk; omega
    · exact psum_zero (n := k) (fun j hj => h j (by omega)) (by omega) j (by omega)
theorem psum_upd (z : Nat → Int) (i : Nat) (v : Int) : ∀ {n : Nat}, i < n → psum (fun j => if j = i then v else z j) n = psum z n - z i + v
  | 0, h => absurd h (by omega)
  | k + 1, h => by
    rw [psum_succ, psum_succ]
    by_cases hk : i = k
    · subst hk
      have e : ∀ m, m ≤ i → psum (fun j => if j = i then v else z j) m = psum z m := by
        intro m
        induction m with
        | zero => intro _; rfl
        | succ m ih => intro hm; rw [psum_succ, psum_succ, ih (by omega), if_neg (by omega)]
      rw [e i (Nat.le_refl _), if_pos rfl]; omega
    · rw [psum_upd z i v (n := k) (by omega), if_neg (fun h => hk h.symm)]; omega
theorem se_sgn {z : Nat → Int} {n : Nat} (n1 : 1 ≤ n) (h : psum z n = 0) : z (bN z n) ≤ 0 ∧ 0 ≤ z (bX z n) ∧ (z (bX z n) = 0 → z (bN z n) = 0) ∧ (z (bN z n) = 0 → z (bX z n) = 0) := by
  refine ⟨?_, ?_, ?_, ?_⟩
  · have h1 := psum_ge (z := z) (M := z (bN z n)) (n := n) (fun j hj => bN_min z hj)
    rcases Int.lt_or_le 0 (z (bN z n)) with hh | hh
    · have := Int.mul_pos hh (show (0 : Int) < n by omega); omega
    · exact hh
  · have h1 := psum_le (z := z) (M := z (bX z n)) (n := n) (fun j hj => bX_max z hj)
    rcases Int.lt_or_le (z (bX z n)) 0 with hh | hh
    · have := Int.mul_neg_of_neg_of_pos hh (show (0 : Int) < n by omega); omega
    · exact hh
  · intro h0
    exact psum_zero (fun j hj => by have := bX_max z hj; omega) h _ (bN_lt z n1)
  · intro h0
    have e : psum (fun j => -(z j)) n = 0 := by
      have : ∀ m, psum (fun j => -(z j)) m = -(psum z m) := by
        intro m
        induction m with
        | zero => rfl
        | succ m ih => rw [psum_succ, psum_succ, ih]; omega
      rw [this n, h]; rfl
    have := psum_zero (z := fun j => -(z j)) (fun j hj => by have := bN_min z hj; show -(z j) ≤ 0; omega) e _ (bX_lt z n1)
    omega
theorem seC_ge {z : Nat → Int} {n : Nat} (n1 : 1 ≤ n) (h : psum z n = 0) : 0 ≤ seC z n ∧ (seC z n = 0 ↔ z (bX z n) = 0) := by
  obtain ⟨a, b, c, d⟩ := se_sgn n1 h
  unfold seC
  refine ⟨by omega, ⟨fun h => ?_, fun h => ?_⟩⟩
  · rcases Int.le_total (-(z (bN z n))) (z (bX z n)) with g | g
    · exact d (by omega)
    · omega
  · omega
theorem seN_seq (z : Nat → Int) (n : Nat) : seN z n = fun j => if j = bX z n then z (bX z n) - seC z n else (fun j => if j = bN z n then z (bN z n) + seC z n else z j) j := by
  funext j
  unfold seN
  by_cases h1 : j = bX z n
  · rw [if_pos h1, if_pos h1, h1]
  · rw [if_neg h1, if_neg h1]
    by_cases h2 : j = bN z n
    · rw [if_pos h2]; show _ = if j = bN z n then _ else _; rw [if_pos h2, h2]
    · rw [if_neg h2]; show _ = if j = bN z n then _ else _; rw [if_neg h2]
theorem se_ne {z : Nat → Int} {n : Nat} (n1 : 1 ≤ n) (h : psum z n = 0) (hc : ¬ seC z n = 0) : z (bN z n) < 0 ∧ 0 < z (bX z n) ∧ ¬ bX z n = bN z n := by
  obtain ⟨a, b, c, d⟩ := se_sgn n1 h
  have h2 := (seC_ge n1 h).2
  have h3 : ¬ z (bX z n) = 0 := fun e => hc (h2.2 e)
  have h4 : ¬ z (bN z n) = 0 := fun e => h3 (d e)
  refine ⟨by omega, by omega, fun e => ?_⟩
  rw [e] at b h3
  omega
theorem seN_inv {z : Nat → Int} {n : Nat} (n1 : 1 ≤ n) (h : seI z n) : seI (seN z n) n := by
  by_cases hc : seC z n = 0
  · have e : seN z n = z := by
      funext j
      unfold seN
      rw [hc]
      split
      · omega
      · split <;> omega
    rw [e]; exact h
  · obtain ⟨a, b, hne⟩ := se_ne n1 h.1 hc
    have hcv : seC z n = min (-(z (bN z n))) (z (bX z n)) := rfl
    refine ⟨?_, fun j hj => ?_⟩
    · rw [seN_seq z n, psum_upd _ _ _ (bX_lt z n1), psum_upd _ _ _ (bN_lt z n1), if_neg hne, h.1]; omega
    · have hj2 := h.2 j hj
      have hx := h.2 _ (bX_lt z n1)
      have hn := h.2 _ (bN_lt z n1)
      unfold seN
      split
      · next e => subst e; omega
      · split
        · next e => subst e; omega
        · exact hj2
theorem seB_inv {x : Nat → Int} {n : Nat} (n1 : 1 ≤ n) (h : seI x n) : ∀ t, seI (seB x n t) n
  | 0 => h
  | t + 1 => seN_inv n1 (seB_inv n1 h t)
/-- how many accounts are open -/
def opN (z : Nat → Int) : Nat → Nat
  | 0 => 0
  | k + 1 => opN z k + (if z k = 0 then 0 else 1)
theorem opN_le (z : Nat → Int) : ∀ n, opN z n ≤ n
  | 0 => Nat.le_refl _
  | k + 1 => by
    have := opN_le z k
    show opN z k + (if z k = 0 then 0 else 1) ≤ k + 1
    split <;> omega
theorem opN_mono {z y : Nat → Int} : ∀ {n : Nat}, (∀ j, j < n → z j = 0 → y j = 0) → opN y n ≤ opN z n
  | 0, _ => Nat.le_refl _
  | k + 1, h => by
    have ih := opN_mono (n := k) (fun j hj => h j (by omega))
    have hk := h k (by omega)
    show opN y k + (if y k = 0 then 0 else 1) ≤ opN z k + (if z k = 0 then 0 else 1)
    by_cases hz : z k = 0
    · rw [if_pos hz, if_pos (hk hz)]; omega
    · rw [if_neg hz]; split <;> omega
theorem opN_lt {z y : Nat → Int} {i : Nat} : ∀ {n : Nat}, (∀ j, j < n → z j = 0 → y j = 0) → i < n → ¬ z i = 0 → y i = 0 → opN y n < opN z n
  | 0, _, h, _, _ => absurd h (by omega)
  | k + 1, h, hi, hz, hy => by
    have hk := h k (by omega)
    show opN y k + (if y k = 0 then 0 else 1) < opN z k + (if z k = 0 then 0 else 1)
    by_cases e : i = k
    · subst e
      have := opN_mono (n := i) (fun j hj => h j (by omega))
      rw [if_pos hy, if_neg hz]; omega
    · have ih := opN_lt (n := k) (i := i) (fun j hj => h j (by omega)) (by omega) hz hy
      by_cases hz' : z k = 0
      · rw [if_pos hz', if_pos (hk hz')]; omega
      · rw [if_neg hz']; split <;> omega
theorem opN_step {z : Nat → Int} {n : Nat} (n1 : 1 ≤ n) (h : psum z n = 0) (hc : ¬ seC z n = 0) : opN (seN z n) n < opN z n := by
  obtain ⟨a, b, hne⟩ := se_ne n1 h hc
  have hcv : seC z n = min (-(z (bN z n))) (z (bX z n)) := rfl
  have hk : ∀ j, j < n → z j = 0 → seN z n j = 0 := by
    intro j _ h0
    unfold seN
    split
    · next e => subst e; omega
    · split
      · next e => subst e; omega
      · exact h0
  rcases Int.le_total (-(z (bN z n))) (z (bX z n)) with g | g
  · refine opN_lt (i := bN z n) hk (bN_lt z n1) (by omega) ?_
    unfold seN
    rw [if_neg (fun e => hne e.symm), if_pos rfl]; omega
  · refine opN_lt (i := bX z n) hk (bX_lt z n1) (by omega) ?_
    unfold seN
    rw [if_pos rfl]; omega
theorem seB_shift (x : Nat → Int) (n : Nat) : ∀ t, seB x n (t + 1) = seB (seN x n) n t
  | 0 => rfl
  | t + 1 => by
    show seN (seB x n (t + 1)) n = seN (seB (seN x n) n t) n
    rw [seB_shift x n t]
def seE (x : Nat → Int) (n T : Nat) : Prop := seC (seB x n T) n = 0 ∧ ∀ t, t < T → ¬ seC (seB x n t) n = 0
theorem se_ends {n : Nat} (n1 : 1 ≤ n) : ∀ (m : Nat) (x : Nat → Int), psum x n = 0 → (seI x n) → opN x n ≤ m → ∃ T, T ≤ m ∧ seE x n T
  | 0, x, hs, hi, ho => by
    refine ⟨0, Nat.le_refl _, ?_, fun t ht => absurd ht (by omega)⟩
    rcases Decidable.em (seC x n = 0) with h | h
    · exact h
    · have := opN_step n1 hs h; omega
  | m + 1, x, hs, hi, ho => by
    rcases Decidable.em (seC x n = 0) with h | h
    · exact ⟨0, by omega, h, fun t ht => absurd ht (by omega)⟩
    · have h1 := opN_step n1 hs h
      have h2 := seN_inv n1 hi
      obtain ⟨T, hT, e1, e2⟩ := se_ends n1 m (seN x n) h2.1 h2 (by omega)
      refine ⟨T + 1, by omega, by rw [seB_shift]; exact e1, fun t ht => ?_⟩
      match t, ht with
      | 0, _ => exact h
      | t + 1, ht => rw [seB_shift]; exact e2 t (by omega)
noncomputable def seT (x : Nat → Int) (n : Nat) : Nat := @dite _ (∃ T, T ≤ n ∧ seE x n T) (Classical.propDecidable _) (fun h => Classical.choose h) (fun _ => 0)
theorem seT_spec {x : Nat → Int} {n : Nat} (n1 : 1 ≤ n) (h : seI x n) : seT x n ≤ n ∧ seE x n (seT x n) := by
  have hx := se_ends n1 n x h.1 h (opN_le x n)
  unfold seT
  rw [dif_pos hx]
  exact Classical.choose_spec hx
theorem seT_le (x : Nat → Int) (n : Nat) : seT x n ≤ n := by
  unfold seT
  split
  · next h => exact (Classical.choose_spec h).1
  · omega
/-- the payments, three numbers each -/
def sePay (x : Nat → Int) (n j : Nat) : Int := if j % 3 = 0 then (bN (seB x n (j / 3)) n : Nat) else if j % 3 = 1 then (bX (seB x n (j / 3)) n : Nat) else seC (seB x n (j / 3)) n
theorem sePay_0 (x : Nat → Int) (n t : Nat) : sePay x n (3 * t) = (bN (seB x n t) n : Nat) := by
  unfold sePay
  rw [if_pos (by omega), show 3 * t / 3 = t by omega]
theorem sePay_1 (x : Nat → Int) (n t : Nat) : sePay x n (3 * t + 1) = (bX (seB x n t) n : Nat) := by
  unfold sePay
  rw [if_neg (by omega), if_pos (by omega), show (3 * t + 1) / 3 = t by omega]
theorem sePay_2 (x : Nat → Int) (n t : Nat) : sePay x n (3 * t + 2) = seC (seB x n t) n := by
  unfold sePay
  rw [if_neg (by omega), if_neg (by omega), show (3 * t + 2) / 3 = t by omega]
theorem own_step3 {F : Nat → Value} {xs : List Value} {k : Nat} {u v y : Value} (hl : xs.length = k) (h : ∀ j, j < k → xs[j]? = some (F j)) (h0 : u = F k) (h1 : v = F (k + 1)) (h2 : y = F (k + 2)) : ∀ j, j < k + 3 → (xs ++ [u, v, y])[j]? = some (F j) := by
  intro j hj
  by_cases hjk : j < k
  · rw [List.getElem?_append_left (by omega)]; exact h j hjk
  · rw [List.getElem?_append_right (by omega), hl]
    rcases show j = k ∨ j = k + 1 ∨ j = k + 2 by omega with e | e | e
    · subst e; rw [Nat.sub_self, h0]; rfl
    · subst e; rw [show k + 1 - k = 1 by omega, h1]; rfl
    · subst e; rw [show k + 2 - k = 2 by omega, h2]; rfl
def seP (x : Nat → Int) (n : Nat) : Prop := allP x n 1 12 (-1000000000) 1000000000 ∧ psum x n = 0
theorem se_len {x : Nat → Int} {n : Nat} : lenV (seP x n) (3 * seT x n) ≤ 1048576 := by
  by_cases h : seP x n
  · rw [lenV_yes h]; have := h.1.1.2; have := seT_le x n; omega
  · rw [lenV_no h]; omega
theorem cell_three_new (w : World) (x y z : Value) (t : TypeId) : ∀ j u, [x, y, z][j]? = some u → (w.alloc (.cells #[x, y, z] t)).cell? ((⟨w.heap.size, 0, none⟩ : Addr).add j) = some u := by
  intro j u hj
  match j, hj with
  | 0, hj => simp at hj; subst hj; simp [Addr.add]
  | 1, hj => simp at hj; subst hj; simp [Addr.add]
  | 2, hj => simp at hj; subst hj; simp [Addr.add]
  | j + 3, hj => simp at hj
def lenOfV : Value → Nat
  | .slice _ n _ => n
  | _ => 0
end Go.Proofs.Ytggpfaokmkhhdaa
