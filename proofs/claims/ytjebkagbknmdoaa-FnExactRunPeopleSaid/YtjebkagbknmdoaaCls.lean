/- Floats: finite, infinite, subnormal; the absolute value. -/
import Derived.Test.YtjebkagbknmdoaaFlo2
namespace Go
open Ieee

/-- neither an infinity nor a NaN -/
def ffin (k : FloatKind) (x : Nat) : Bool := k.format.read x matches .number ..
theorem ffin_number {k : FloatKind} {x : Nat} (h : ffin k x = true) : ∃ s m e, k.format.read x = .number s m e := by
  unfold ffin at h
  cases hr : k.format.read x with
  | number s m e => exact ⟨s, m, e, rfl⟩
  | infinity s => rw [hr] at h; cases h
  | nan s t => rw [hr] at h; cases h
theorem ffin_nan {k : FloatKind} {x : Nat} (h : ffin k x = true) : fnan k x = false := by
  obtain ⟨s, m, e, hr⟩ := ffin_number h
  unfold fnan; rw [hr]; rfl
theorem inf_of {k : FloatKind} {x : Nat} (h : ffin k x = false) (hn : fnan k x = false) : ∃ s, k.format.read x = .infinity s := by
  unfold ffin at h; unfold fnan at hn
  cases hr : k.format.read x with
  | number s m e => rw [hr] at h; cases h
  | infinity s => exact ⟨s, rfl⟩
  | nan s t => rw [hr] at hn; cases hn

theorem signed_not (s : Bool) (m u : Nat) : signed s m u + signed (!s) m u = 0 := by
  unfold signed; cases s <;> simp <;> omega

/-- what is taken from itself: zero for a finite number, a NaN otherwise -/
theorem fop_sub_self (k : FloatKind) (x : Nat) : fop .sub k x x = if ffin k x then 0 else qn k := by
  cases h : ffin k x
  · unfold fop floatBits
    dsimp only
    cases hn : fnan k x
    · obtain ⟨s, hr⟩ := inf_of h hn
      unfold Format.sub
      rw [hr]
      cases s <;> rfl
    · obtain ⟨s, t, hr⟩ := fnan_read hn
      unfold Format.sub; rw [hr]; rfl
  · obtain ⟨s, m, e, hr⟩ := ffin_number h
    unfold fop floatBits
    dsimp only
    unfold Format.sub
    rw [hr]
    have : (Datum.number s m e).sum (Datum.number s m e).opposite = some (.number false 0 e) := by
      show some (Datum.number _ _ _) = _
      have hz : signed s m (e - min e e).toNat + signed (!s) m (e - min e e).toNat = 0 := signed_not _ _ _
      rw [hz]
      simp
    rw [this]
    cases k <;> rfl
theorem order_zero_zero (k : FloatKind) : k.format.order 0 0 = some .eq := by cases k <;> decide +kernel
theorem sub_self_eq0 (k : FloatKind) (x : Nat) {r : Nat} (hr : FS k r (fop .sub k x x)) : (k.format.order r 0 == some .eq) = ffin k x := by
  rw [order_same hr (FS.refl k 0), fop_sub_self]
  cases h : ffin k x
  · rw [if_neg (by decide), order_nan_l (fnan_qn k)]; rfl
  · rw [if_pos rfl, order_zero_zero]; rfl
theorem ffin_same {k : FloatKind} {x y : Nat} (h : FS k x y) : ffin k x = ffin k y := by
  rcases h with rfl | ⟨a, b⟩
  · rfl
  · cases hx : ffin k x
    · cases hy : ffin k y
      · rfl
      · rw [ffin_nan hy] at b; cases b
    · rw [ffin_nan hx] at a; cases a

def dabs : Datum → Datum
  | .number _ m e => .number false m e
  | .infinity _ => .infinity false
  | .nan _ t => .nan false t
theorem read_abs64 (x : Nat) : double.read (x % 9223372036854775808) = dabs (double.read x) := by
  have hs : double.signWeight = 9223372036854775808 := by decide +kernel
  unfold Format.read
  dsimp only
  rw [hs, Nat.mod_mod, Nat.div_eq_of_lt (Nat.mod_lt _ (by decide))]
  by_cases h1 : x % 9223372036854775808 < double.binade
  · rw [if_pos h1, if_pos h1]; rfl
  · rw [if_neg h1, if_neg h1]
    by_cases h2 : x % 9223372036854775808 < double.infRung
    · rw [if_pos h2, if_pos h2]; rfl
    · rw [if_neg h2, if_neg h2]
      by_cases h3 : x % 9223372036854775808 = double.infRung
      · rw [if_pos h3, if_pos h3]; rfl
      · rw [if_neg h3, if_neg h3]; rfl

theorem read_max64 : double.read 9218868437227405311 = .number false 9007199254740991 971 := by decide +kernel
/-- a number less than 2 ^ 1000 is not above the greatest finite one -/
theorem order_max (m : Nat) (e : Int) (h : Mag 1000 (.number false m e)) : Datum.order (.number false m e) (.number false 9007199254740991 971) = some .lt := by
  show some (compare (signed false m (e - min e 971).toNat) (signed false 9007199254740991 (971 - min e 971).toNat)) = _
  have h1 := shl_lt m _ e (min e 971) 1000 (by omega) rfl h
  have h2 : 2 ^ (1000 - min e 971).toNat ≤ 9007199254740991 * 2 ^ (971 - min e 971).toNat := by
    have : (1000 - min e 971).toNat = 29 + (971 - min e 971).toNat := by omega
    rw [this, Nat.pow_add]
    exact Nat.mul_le_mul_right _ (by decide)
  have h3 : signed false m (e - min e 971).toNat = ((m * 2 ^ (e - min e 971).toNat : Nat) : Int) := by unfold signed; rw [Nat.shiftLeft_eq]; rfl
  have h4 : signed false 9007199254740991 (971 - min e 971).toNat = ((9007199254740991 * 2 ^ (971 - min e 971).toNat : Nat) : Int) := by unfold signed; rw [Nat.shiftLeft_eq]; rfl
  rw [h3, h4]
  congr 1
  have : ((m * 2 ^ (e - min e 971).toNat : Nat) : Int) < ((9007199254740991 * 2 ^ (971 - min e 971).toNat : Nat) : Int) := by omega
  simp only [compare, compareOfLessAndEq, this, if_true]

theorem read_inf64 (s : Bool) : double.read (double.write (.infinity s)) = .infinity s := by cases s <;> decide +kernel
/-- math.IsInf's test of a widened number -/
theorem widen_isInf {x r : Nat} (hr : FS .f64 r (widen x)) (hn : fnan .f32 x = false) : (FloatKind.f64.format.order (r % 9223372036854775808) 9218868437227405311 == some .gt) = !ffin .f32 x := by
  have hw : r = widen x := by
    rcases hr with h | ⟨h, h2⟩
    · exact h
    · exfalso
      rcases mag_read32 x with ⟨s, t, e⟩ | ⟨s, e⟩ | hm
      · have : fnan .f32 x = true := isNaN_of_read ⟨s, t, e⟩
        rw [hn] at this; cases this
      · unfold widen at h2; rw [e] at h2
        have : fnan .f64 (double.write (.infinity s)) = false := by unfold fnan; show (double.read _).isNaN = false; rw [read_inf64]; rfl
        dsimp only at h2
        rw [this] at h2; cases h2
      · cases hd : single.read x with
        | infinity s => rw [hd] at hm; exact hm.elim
        | nan s t => rw [hd] at hm; exact hm.elim
        | number s m e =>
          rw [hd] at hm
          unfold widen at h2; rw [hd] at h2
          have : fnan .f64 (double.write (.number s m e)) = false := mag_not_nan (mag_write64 hm (by decide) (by decide))
          dsimp only at h2
          rw [this] at h2; cases h2
  subst hw
  show (Datum.order (double.read (widen x % 9223372036854775808)) (double.read 9218868437227405311) == some .gt) = _
  rw [read_abs64, read_max64]
  rcases mag_read32 x with ⟨s, t, e⟩ | ⟨s, e⟩ | hm
  · have : fnan .f32 x = true := isNaN_of_read ⟨s, t, e⟩
    rw [hn] at this; cases this
  · have hf : ffin .f32 x = false := by unfold ffin; show (match single.read x with | .number .. => true | _ => false) = false; rw [e]
    rw [hf]
    have hw : widen x = double.write (.infinity s) := by unfold widen; rw [e]
    rw [hw, read_inf64]; rfl
  · cases hd : single.read x with
    | infinity s => rw [hd] at hm; exact hm.elim
    | nan s t => rw [hd] at hm; exact hm.elim
    | number s m e =>
      have hf : ffin .f32 x = true := by unfold ffin; show (match single.read x with | .number .. => true | _ => false) = true; rw [hd]
      rw [hf]
      rw [hd] at hm
      have hw : widen x = double.write (.number s m e) := by unfold widen; rw [hd]
      have hm2 := mag_write64 hm (by decide) (by decide)
      rw [hw]
      cases hd2 : double.read (double.write (.number s m e)) with
      | infinity s => rw [hd2] at hm2; exact hm2.elim
      | nan s t => rw [hd2] at hm2; exact hm2.elim
      | number s' m' e' =>
        rw [hd2] at hm2
        show (Datum.order (.number false m' e') _ == _) = _
        rw [order_max m' e' (mag_mono hm2 (by decide))]
        rfl
end Go
