/- Incomes: lists in ascending order and their sums, unevenness, ranks; no program is read here. -/
import Derived.Test.YtelcknddbikgaaaP8
namespace Go.Dues
open Go.RowKit
theorem pc_congr {x y : Nat → Int} : ∀ {n : Nat}, (∀ j, j < n → x j = y j) → psum x n = psum y n
  | 0, _ => rfl
  | n + 1, h => by rw [psum_succ, psum_succ, pc_congr (fun j hj => h j (by omega)), h n (by omega)]
theorem pc_add (x y : Nat → Int) : ∀ n : Nat, psum (fun j => x j + y j) n = psum x n + psum y n
  | 0 => by simp [psum]
  | n + 1 => by rw [psum_succ, psum_succ, psum_succ, pc_add x y n]; omega
/-- v stands at place k of the first m + 1 of a list, which rise but for it, and is not greater than those between it and their end -/
def inaP (zs : List Int) (k m : Nat) (v : Int) : Prop := ∃ a b r, zs = a ++ v :: (b ++ r) ∧ a.length = k ∧ a.length + b.length = m ∧ (a ++ b).Pairwise (fun p q => p ≤ q) ∧ ∀ q, q ∈ b → v ≤ q
theorem ina_start {zs : List Int} {i : Nat} {v : Int} (h : (zs.take i).Pairwise (fun p q => p ≤ q)) (hv : zs[i]? = some v) : inaP zs i i v := by
  have hl : i < zs.length := by
    rcases Nat.lt_or_ge i zs.length with h | h
    · exact h
    · rw [List.getElem?_eq_none h] at hv; cases hv
  refine ⟨zs.take i, [], zs.drop (i + 1), ?_, by rw [List.length_take]; omega, by rw [List.length_take]; simp; omega, by simpa using h, by simp⟩
  rw [List.getElem?_eq_getElem hl] at hv
  injection hv with hv
  rw [List.nil_append, ← hv, List.getElem_cons_drop, List.take_append_drop]
theorem ina_at {zs : List Int} {k m : Nat} {v : Int} (h : inaP zs k m v) : zs[k]? = some v := by
  obtain ⟨a, b, r, rfl, rfl, _⟩ := h
  simp
theorem ina_end {zs : List Int} {k m : Nat} {v : Int} (h : inaP zs k m v) (he : k = 0 ∨ ∃ u, zs[k - 1]? = some u ∧ u ≤ v) : (zs.take (m + 1)).Pairwise (fun p q => p ≤ q) := by
  obtain ⟨a, b, r, rfl, rfl, rfl, hp, hb⟩ := h
  have e : (a ++ v :: (b ++ r)).take (a.length + b.length + 1) = a ++ v :: b := by
    rw [show a ++ v :: (b ++ r) = (a ++ v :: b) ++ r by simp, List.take_append_of_le_length (by simp; omega)]
    exact List.take_of_length_le (by simp; omega)
  rw [e]
  rw [List.pairwise_append] at hp ⊢
  obtain ⟨h1, h2, h3⟩ := hp
  refine ⟨h1, List.pairwise_cons.2 ⟨hb, h2⟩, ?_⟩
  intro p hpa q hq
  rcases List.mem_cons.1 hq with rfl | hq
  · rcases he with h0 | ⟨u, hu, hvu⟩
    · have : a = [] := List.eq_nil_of_length_eq_zero h0
      subst this
      cases hpa
    · have hne : 0 < a.length := List.length_pos_of_mem hpa
      rw [List.getElem?_append_left (by omega)] at hu
      have : p ≤ u := by
        obtain ⟨i, hi, rfl⟩ := List.getElem_of_mem hpa
        rw [List.getElem?_eq_getElem (by omega)] at hu
        injection hu with hu
        rw [← hu]
        by_cases hil : i = a.length - 1
        · subst hil; exact Int.le_refl _
        · exact List.pairwise_iff_getElem.1 h1 i (a.length - 1) (by omega) (by omega) (by omega)
      omega
  · exact h3 p hpa q hq
theorem ina_step {zs : List Int} {k m : Nat} {u v : Int} (h : inaP zs (k + 1) m v) (hu : zs[k]? = some u) (hlt : v < u) : inaP ((zs.set (k + 1) u).set k v) k m v ∧ ((zs.set (k + 1) u).set k v).Perm zs := by
  obtain ⟨a, b, r, rfl, hl, rfl, hp, hb⟩ := h
  obtain ⟨a', w, rfl⟩ : ∃ a' w, a = a' ++ [w] := ⟨a.dropLast, a.getLast (by intro e; subst e; cases hl), (List.dropLast_concat_getLast _).symm⟩
  have hk : a'.length = k := by simpa using hl
  subst hk
  have hw : w = u := by
    rw [List.append_assoc, List.getElem?_append_right (by omega)] at hu
    simpa using hu
  subst hw
  have e : (((a' ++ [w]) ++ v :: (b ++ r)).set (a'.length + 1) w).set a'.length v = a' ++ v :: ((w :: b) ++ r) := by
    simp [List.set_append]
  rw [e]
  refine ⟨⟨a', w :: b, r, rfl, rfl, by simp; omega, by simpa using hp, ?_⟩, ?_⟩
  · intro q hq
    rcases List.mem_cons.1 hq with rfl | hq
    · omega
    · exact hb q hq
  · rw [List.append_assoc]
    exact List.Perm.append_left _ (List.Perm.swap _ _ _)
theorem asc_eq {x : Nat → Int} {n : Nat} {ys : List Int} (hp : ys.Perm (vlL x n)) (hd : ys.Pairwise (fun a b => a ≤ b)) : ys = ascL x n :=
  List.Perm.eq_of_pairwise (le := fun a b => a ≤ b) (fun a b _ _ h1 h2 => by omega) hd (ascL_up x n) (hp.trans (ascL_perm x n).symm)
/-- the number with an index in ascending order -/
def ascF (x : Nat → Int) (n j : Nat) : Int := (ascL x n)[j]?.getD 0
theorem ascF_at {x : Nat → Int} {n j : Nat} (h : j < n) : (ascL x n)[j]? = some (ascF x n j) := by
  unfold ascF
  rw [List.getElem?_eq_getElem (by rw [ascL_len]; exact h)]
  rfl
theorem ascF_bd {x : Nat → Int} {n j : Nat} {lo hi : Int} (h : ∀ j, j < n → lo ≤ x j ∧ x j ≤ hi) (hj : j < n) : lo ≤ ascF x n j ∧ ascF x n j ≤ hi := by
  have hm := (ascL_perm x n).mem_iff.1 (List.mem_of_getElem? (ascF_at (x := x) hj))
  unfold vlL at hm
  rw [List.mem_map] at hm
  obtain ⟨i, hi, he⟩ := hm
  rw [← he]
  exact h i (List.mem_range.1 hi)
theorem psum_list (x : Nat → Int) (n : Nat) : psum x n = (vlL x n).sum := by
  have h := sum_take (ys := vlL x n) (f := x) (c := n) (by rw [vlL_len]; exact Nat.le_refl _) (fun j hj => by unfold vlL; rw [List.getElem?_map, List.getElem?_range hj]; rfl)
  rw [h, List.take_of_length_le (by rw [vlL_len]; exact Nat.le_refl _)]
theorem perm_sum {a b : List Int} (h : a.Perm b) : a.sum = b.sum := by
  induction h with
  | nil => rfl
  | cons v _ ih => rw [List.sum_cons, List.sum_cons, ih]
  | swap u v l => simp only [List.sum_cons]; omega
  | trans _ _ h1 h2 => exact h1.trans h2
theorem psum_asc (x : Nat → Int) (n : Nat) : psum (ascF x n) n = psum x n := by
  have h := sum_take (ys := ascL x n) (f := ascF x n) (c := n) (by rw [ascL_len]; exact Nat.le_refl _) (fun j hj => ascF_at hj)
  rw [h, List.take_of_length_le (by rw [ascL_len]; exact Nat.le_refl _), psum_list]
  exact perm_sum (ascL_perm x n)
/-- how far apart two numbers are -/
def difI (a b : Int) : Int := max (a - b) (b - a)
theorem dif_bd {a b : Int} (ha : 0 ≤ a ∧ a ≤ 1000000000) (hb : 0 ≤ b ∧ b ≤ 1000000000) : 0 ≤ difI a b ∧ difI a b ≤ 1000000000 := by unfold difI; omega
theorem dif_comm (a b : Int) : difI a b = difI b a := by unfold difI; omega
def unS (x : Nat → Int) (n : Nat) : Int := psum (fun i => psum (fun k => difI (x i) (x k)) i) n
def unT (x : Nat → Int) (n : Nat) : Int := psum (fun i => psum (fun k => difI (x i) (x (i + 1 + k))) (n - 1 - i)) n
theorem un_eq (x : Nat → Int) : ∀ n, unT x n = unS x n
  | 0 => rfl
  | n + 1 => by
    have ih := un_eq x n
    have h1 : unT x (n + 1) = psum (fun i => psum (fun k => difI (x i) (x (i + 1 + k))) (n - 1 - i) + difI (x i) (x n)) n := by
      unfold unT
      rw [psum_succ]
      have h0 : psum (fun k => difI (x n) (x (n + 1 + k))) (n + 1 - 1 - n) = 0 := by rw [show n + 1 - 1 - n = 0 by omega]; rfl
      rw [h0, Int.add_zero]
      refine pc_congr (fun j hj => ?_)
      show psum (fun k => difI (x j) (x (j + 1 + k))) (n + 1 - 1 - j) = _
      rw [show n + 1 - 1 - j = (n - 1 - j) + 1 by omega, psum_succ, show j + 1 + (n - 1 - j) = n by omega]
    have h2 : unS x (n + 1) = unS x n + psum (fun k => difI (x n) (x k)) n := rfl
    rw [h1, h2, pc_add, ← ih]
    congr 1
    exact pc_congr (fun j _ => dif_comm _ _)
theorem row_bd {x : Nat → Int} {n : Nat} (hx : ∀ j, j < n → 0 ≤ x j ∧ x j ≤ 1000000000) {v : Int} (hv : 0 ≤ v ∧ v ≤ 1000000000) {m : Nat} (hm : m ≤ n) : 0 ≤ psum (fun k => difI v (x k)) m ∧ psum (fun k => difI v (x k)) m ≤ 1000000000 * m :=
  psum_capM (fun j hj => dif_bd hv (hx j (by omega)))
theorem unS_bd {x : Nat → Int} {n : Nat} (hn : n ≤ 64) (hx : ∀ j, j < n → 0 ≤ x j ∧ x j ≤ 1000000000) : ∀ {p : Nat}, p ≤ n → 0 ≤ unS x p ∧ unS x p ≤ 64000000000 * p := fun {p} hp =>
  psum_capM (x := fun i => psum (fun k => difI (x i) (x k)) i) (n := p) (M := 64000000000) (fun i hi => by
    have := row_bd hx (hx i (by omega)) (m := i) (by omega)
    show 0 ≤ psum (fun k => difI (x i) (x k)) i ∧ psum (fun k => difI (x i) (x k)) i ≤ 64000000000
    omega)
theorem unT_bd {x : Nat → Int} {n : Nat} (hn : n ≤ 64) (hx : ∀ j, j < n → 0 ≤ x j ∧ x j ≤ 1000000000) {p : Nat} (hp : p ≤ n) : 0 ≤ psum (fun i => psum (fun k => difI (x i) (x (i + 1 + k))) (n - 1 - i)) p ∧ psum (fun i => psum (fun k => difI (x i) (x (i + 1 + k))) (n - 1 - i)) p ≤ 64000000000 * p :=
  psum_capM (x := fun i => psum (fun k => difI (x i) (x (i + 1 + k))) (n - 1 - i)) (n := p) (M := 64000000000) (fun i hi => by
    have := psum_capM (x := fun k => difI (x i) (x (i + 1 + k))) (n := n - 1 - i) (M := 1000000000) (fun j hj => dif_bd (hx i (by omega)) (hx _ (by omega)))
    show 0 ≤ psum (fun k => difI (x i) (x (i + 1 + k))) (n - 1 - i) ∧ psum (fun k => difI (x i) (x (i + 1 + k))) (n - 1 - i) ≤ 64000000000
    omega)
/-! ### fractions -/
def gcd9 (a b : Int) : Int := (Nat.gcd a.toNat b.toNat : Nat)
theorem gcd9_bd {a b : Int} (h : 1 ≤ b) : 1 ≤ gcd9 a b ∧ gcd9 a b ≤ b := by
  unfold gcd9
  have h1 : 0 < Nat.gcd a.toNat b.toNat := Nat.gcd_pos_of_pos_right _ (by omega)
  have h2 : Nat.gcd a.toNat b.toNat ≤ b.toNat := Nat.gcd_le_right _ (by omega)
  omega
theorem gcd9_sym (a b : Int) : gcd9 a b = gcd9 b a := by unfold gcd9; rw [Nat.gcd_comm]
/-! ### the poor, and ranks -/
def poN (x : Nat → Int) (l : Int) (n : Nat) : Int := psum (fun j => if x j < l then 1 else 0) n
def poG (x : Nat → Int) (l : Int) (n : Nat) : Int := psum (fun j => if x j < l then l - x j else 0) n
theorem poN_bd (x : Nat → Int) (l : Int) (n : Nat) : 0 ≤ poN x l n ∧ poN x l n ≤ n := by
  have h := psum_capM (x := fun j => if x j < l then (1 : Int) else 0) (n := n) (M := 1) (fun j _ => by split <;> omega)
  unfold poN
  omega
theorem poG_bd {x : Nat → Int} {l : Int} {n : Nat} (hl : 0 ≤ l ∧ l ≤ 1000000000) (hx : ∀ j, j < n → 0 ≤ x j ∧ x j ≤ 1000000000) {k : Nat} (hk : k ≤ n) : 0 ≤ poG x l k ∧ poG x l k ≤ 1000000000 * k :=
  psum_capM (fun j hj => by have := hx j (by omega); split <;> omega)
theorem poN_yes {x : Nat → Int} {l : Int} {k : Nat} (h : x k < l) : poN x l (k + 1) = poN x l k + 1 := by unfold poN; rw [psum_succ, if_pos h]
theorem poN_no {x : Nat → Int} {l : Int} {k : Nat} (h : ¬ x k < l) : poN x l (k + 1) = poN x l k := by unfold poN; rw [psum_succ, if_neg h, Int.add_zero]
theorem poG_yes {x : Nat → Int} {l : Int} {k : Nat} (h : x k < l) : poG x l (k + 1) = poG x l k + (l - x k) := by unfold poG; rw [psum_succ, if_pos h]
theorem poG_no {x : Nat → Int} {l : Int} {k : Nat} (h : ¬ x k < l) : poG x l (k + 1) = poG x l k := by unfold poG; rw [psum_succ, if_neg h, Int.add_zero]
def crI (a b c d : Int) : Int := if (a < b ∧ d < c) ∨ (b < a ∧ c < d) then 1 else 0
def crS (x y : Nat → Int) (n : Nat) : Int := psum (fun i => psum (fun k => crI (x i) (x k) (y i) (y k)) i) n
theorem cr_row (x y : Nat → Int) (i m : Nat) : 0 ≤ psum (fun k => crI (x i) (x k) (y i) (y k)) m ∧ psum (fun k => crI (x i) (x k) (y i) (y k)) m ≤ m := by
  have h := psum_capM (x := fun k => crI (x i) (x k) (y i) (y k)) (n := m) (M := 1) (fun j _ => by unfold crI; split <;> omega)
  omega
theorem crS_bd (x y : Nat → Int) {p : Nat} (hp : p ≤ 64) : 0 ≤ crS x y p ∧ crS x y p ≤ 64 * p :=
  psum_capM (fun i hi => by have := cr_row x y i i; omega)
theorem cr_mul {a b c d : Int} : (a - b) * (c - d) < 0 ↔ (a < b ∧ d < c) ∨ (b < a ∧ c < d) := by
  constructor
  · intro h
    rcases Int.lt_trichotomy a b with h1 | h1 | h1
    · rcases Int.lt_trichotomy d c with h2 | h2 | h2
      · exact .inl ⟨h1, h2⟩
      · subst h2; simp at h
      · have := Int.mul_nonneg_of_nonpos_of_nonpos (a := a - b) (b := c - d) (by omega) (by omega); omega
    · subst h1; simp at h
    · rcases Int.lt_trichotomy c d with h2 | h2 | h2
      · exact .inr ⟨h1, h2⟩
      · subst h2; simp at h
      · have := Int.mul_nonneg (a := a - b) (b := c - d) (by omega) (by omega); omega
  · rintro (⟨h1, h2⟩ | ⟨h1, h2⟩)
    · exact Int.mul_neg_of_neg_of_pos (by omega) (by omega)
    · exact Int.mul_neg_of_pos_of_neg (by omega) (by omega)
theorem cr_prod {a b c d : Int} (ha : 0 ≤ a ∧ a ≤ 1000000000) (hb : 0 ≤ b ∧ b ≤ 1000000000) (hc : 0 ≤ c ∧ c ≤ 1000000000) (hd : 0 ≤ d ∧ d ≤ 1000000000) : -1000000000000000000 ≤ (a - b) * (c - d) ∧ (a - b) * (c - d) ≤ 1000000000000000000 := by
  rcases Int.le_total b a with h1 | h1 <;> rcases Int.le_total d c with h2 | h2
  · have := mul_bd (a := a - b) (b := c - d) (M := 1000000000) (N := 1000000000) (by omega) (by omega) (by omega) (by omega); omega
  · have := mul_bd (a := a - b) (b := d - c) (M := 1000000000) (N := 1000000000) (by omega) (by omega) (by omega) (by omega)
    have e : (a - b) * (c - d) = -((a - b) * (d - c)) := by rw [← Int.mul_neg]; congr 1; omega
    omega
  · have := mul_bd (a := b - a) (b := c - d) (M := 1000000000) (N := 1000000000) (by omega) (by omega) (by omega) (by omega)
    have e : (a - b) * (c - d) = -((b - a) * (c - d)) := by rw [← Int.neg_mul]; congr 1; omega
    omega
  · have := mul_bd (a := b - a) (b := d - c) (M := 1000000000) (N := 1000000000) (by omega) (by omega) (by omega) (by omega)
    have e : (a - b) * (c - d) = (b - a) * (d - c) := by rw [← Int.neg_mul_neg]; congr 1 <;> omega
    omega
end Go.Dues
