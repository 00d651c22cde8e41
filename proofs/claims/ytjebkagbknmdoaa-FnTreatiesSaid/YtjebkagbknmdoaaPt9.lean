/- Tariffs, credits, parts: what the law on treaties asks, plainly. -/
import Derived.Test.YtjebkagbknmdoaaBu
import Derived.Test.YtjebkagbknmdoaaEd
import Derived.Test.YtjebkagbknmdoaaSd
import Derived.Test.YtjebkagbknmdoaaCb
import Derived.Test.YtjebkagbknmdoaaNp
import Derived.Test.YtjebkagbknmdoaaRo
import Derived.Test.YtjebkagbknmdoaaPt8
namespace Go.Proofs.Ytjebkagbknmdoaa
open Go.RowKit Go.Dues
theorem rnd_le1 {a b r : Int} (hb : 0 < b) (h0 : 0 ≤ a) : 0 ≤ rnd a b r ∧ rnd a b r ≤ a + 1 := by
  have h := rnd_bounds (a := a) (b := b) (r := r)
  have h1 : 0 ≤ a / b := Int.ediv_nonneg h0 (by omega)
  have h2 : a / b ≤ a := Int.ediv_le_self _ h0
  omega
/-- one tariff of the law: it is valid, and its due is told -/
theorem ft_cu {a b c v p r : Int} (ha : 0 ≤ a ∧ a ≤ 10000) (hb : 0 ≤ b ∧ b ≤ 1000) (hc : 0 ≤ c ∧ c ≤ 1000) (hv : 1 ≤ v ∧ v ≤ 10000) (hp : 0 ≤ p ∧ p ≤ 100) (hr : 0 ≤ r ∧ r ≤ 3) :
    cuP a b c v p r ∧ cuV a b c v p r = max c (duV v a r + p * b) ∧ roundP (v * a) 10000 r ∧ (0 ≤ duV v a r ∧ duV v a r ≤ 100000001) ∧ (0 ≤ p * b ∧ p * b ≤ 100000) := by
  have m0 : 0 ≤ v * a := Int.mul_nonneg (by omega) ha.1
  have m1 : v * a ≤ 10000 * 10000 := Int.mul_le_mul hv.2 ha.2 ha.1 (by omega)
  have p0 : 0 ≤ p * b := Int.mul_nonneg hp.1 hb.1
  have p1 : p * b ≤ 100 * 1000 := Int.mul_le_mul hp.2 hb.2 hb.1 (by omega)
  have d := rnd_le1 (a := v * a) (b := 10000) (r := r) (by omega) m0
  have e : cuV a b c v p r = max c (duV v a r + p * b) := by
    unfold cuV
    rw [if_neg (fun h => by omega)]
  have d' : 0 ≤ duV v a r ∧ duV v a r ≤ 100000001 := by unfold duV; omega
  refine ⟨⟨⟨ha, ⟨hb.1, by omega⟩, ⟨hc.1, by omega⟩⟩, ⟨by omega, by omega⟩, ⟨hp.1, by omega⟩, hr, ?_⟩, e, ⟨⟨m0, by omega⟩, ⟨by omega, by omega⟩, hr⟩, d', p0, by omega⟩
  rw [e]; omega
/-- a part of a due that is shared by two amounts is no more than the whole -/
theorem ft_ed {x y : Nat → Int} {n m : Nat} {h a r : Int} (hv : Val x y n m) (h0 : 1 ≤ h) (ha : 0 ≤ a) : edV x y n h a r ≤ dueV x y n (h + a) r := by
  have hx := (xdue_bd hv (show 0 ≤ h + a by omega)).1
  unfold edV dueV
  rw [if_neg (by omega)]
  rw [← rnd_scale (a := xdue x y n (h + a)) (b := 10000) (k := h + a) (r := r) (by omega) (by omega)]
  exact rnd_mono (Int.mul_pos (by omega) (by omega)) (Int.mul_le_mul_of_nonneg_left (by omega) hx)
theorem ft_ed0 {x y : Nat → Int} {n : Nat} {h r : Int} (h0 : 1 ≤ h) : edV x y n h 0 r = dueV x y n h r := by
  unfold edV dueV
  rw [if_neg (by omega), Int.add_zero]
  exact rnd_scale (by omega) (by omega)
theorem ft_sd {x y : Nat → Int} {n : Nat} {a r : Int} : sdV x y n a a r = 2 * dueV x y n a r := by
  unfold sdV
  rw [show (a + a) / 2 = a by omega]
theorem ft_pd2 {x y : Nat → Int} {n : Nat} {a r : Int} : pdV x y n a 2 0 r = dueV x y n a r := by
  unfold pdV
  rw [show a * 2 / 2 = a by omega, show ∀ q : Int, 2 * q / 2 = q from fun q => by omega]
  omega
theorem ft_pd5 {x y : Nat → Int} {n m : Nat} {a r : Int} (hv : Val x y n m) (h0 : 0 ≤ a) (h1 : a ≤ 90000) : pdV x y n a 5 100000 r = 5 * dueV x y n (a * 2 / 5) r / 2 := by
  have b1 := dueV_bd (c := a) (r := r) hv h0
  have b2 := dueV_bd (c := a * 2 / 5) (r := r) hv (by omega)
  unfold pdV
  omega
theorem ft_cb0 {a : Int} (h0 : 1 ≤ a) (h1 : a ≤ 90000) : cbP 50 30 0 0 100 a ∧ tapV (cbF 50 30 0) 0 100 a = 0 := by
  have e : cbF 50 30 0 = 0 := rfl
  refine ⟨⟨by omega, by omega, by omega, ?_⟩, ?_⟩
  · rw [e]; exact ⟨by omega, by omega, by omega, by omega, by omega⟩
  · rw [e]
    have d := rnd_le1 (a := (a - 0) * 100) (b := 10000) (r := 3) (by omega) (by omega)
    unfold tapV lossV
    rw [if_neg (by omega)]
    split <;> omega
theorem ft_cb3 {a : Int} (h0 : 1 ≤ a) (h1 : a ≤ 90000) : cbP 50 30 3 a 100 a ∧ tapV (cbF 50 30 3) a 100 a = 110 := by
  have e : cbF 50 30 3 = 110 := rfl
  refine ⟨⟨by omega, by omega, by omega, ?_⟩, ?_⟩
  · rw [e]; exact ⟨by omega, by omega, by omega, by omega, by omega⟩
  · rw [e]; unfold tapV; rw [if_pos (Int.le_refl _)]
theorem ft_cl {d y a p : Int} (hd : 0 ≤ d ∧ d ≤ 10000) (ha : 1 ≤ a ∧ a ≤ 10000) (hy : 0 ≤ y ∧ y ≤ a) (hp : 0 ≤ p ∧ p ≤ 10000) :
    clP d y a p ∧ 0 ≤ min p (d * y / a) ∧ min p (d * y / a) ≤ p ∧ min p (d * y / a) ≤ d ∧ min p (d * y / a) * a ≤ d * y ∧ (0 ≤ d * y ∧ d * y ≤ 100000000) := by
  have m0 : 0 ≤ d * y := Int.mul_nonneg hd.1 hy.1
  have m1 : d * y ≤ 10000 * 10000 := Int.mul_le_mul hd.2 (by omega) hy.1 (by omega)
  have q0 : 0 ≤ d * y / a := Int.ediv_nonneg m0 (by omega)
  have q1 : d * y / a ≤ d := by
    have h1 : d * y ≤ d * a := Int.mul_le_mul_of_nonneg_left hy.2 hd.1
    have h2 : d * y / a ≤ d * a / a := Int.ediv_le_ediv (by omega) h1
    rw [Int.mul_ediv_cancel _ (show a ≠ 0 by omega)] at h2
    exact h2
  have q2 : d * y / a * a ≤ d * y := by
    have h1 := Int.mul_ediv_add_emod (d * y) a
    have h2 := Int.emod_nonneg (d * y) (show a ≠ 0 by omega)
    rw [Int.mul_comm] at h1
    omega
  have q3 : min p (d * y / a) * a ≤ d * y / a * a := Int.mul_le_mul_of_nonneg_right (by omega) (by omega)
  exact ⟨⟨⟨hd.1, by omega⟩, ⟨ha.1, by omega⟩, hy, ⟨hp.1, by omega⟩⟩, by omega, by omega, by omega, by omega, m0, by omega⟩
theorem ft_io {y a : Int} (ha : 1 ≤ a ∧ a ≤ 10000) (hy : 0 ≤ y ∧ y ≤ a) : ioP y a 5000 ∧ tru (ioQ y a 5000) = decide (a ≤ 2 * y) := by
  have hP : ioP y a 5000 := ⟨⟨by omega, by omega⟩, hy, by omega, by omega⟩
  refine ⟨hP, ?_⟩
  by_cases h : a ≤ 2 * y
  · rw [tru_yes ⟨hP, by omega⟩, decide_eq_true h]
  · rw [tru_no (fun h2 => h (by have := h2.2; omega)), decide_eq_false h]
/-- the least of the tariffs' dues is the first of the least ones -/
theorem ft_best {x : Nat → Int} {v p r : Int} {n : Nat} (h1 : 1 ≤ n) :
    bN (btZ x v p r) n < n ∧ (∀ j, j < n → btZ x v p r (bN (btZ x v p r) n) ≤ btZ x v p r j) ∧ ∀ j, j < bN (btZ x v p r) n → btZ x v p r (bN (btZ x v p r) n) < btZ x v p r j :=
  ⟨bN_lt _ h1, fun _ hj => bN_min _ hj, fun _ hj => bN_first _ hj⟩
end Go.Proofs.Ytjebkagbknmdoaa
