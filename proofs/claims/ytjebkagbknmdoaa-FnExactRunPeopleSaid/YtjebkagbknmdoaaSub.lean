/- Floats: subnormal numbers; flushing them. -/
import Derived.Test.YtjebkagbknmdoaaCls
import Derived.Laws.BitsAllLaws
namespace Go
open Ieee

theorem i64_and_nat (a b : Nat) (ha : a < 9223372036854775808) (hb : b < 9223372036854775808) : bits .and .i64 (a : Int) (b : Int) = ((a &&& b : Nat) : Int) := by
  have hx : a &&& b < 2 ^ 63 := Nat.and_lt_two_pow _ (by omega)
  show IntKind.i64.wrap ((BitVec.ofInt 64 (a : Int) &&& BitVec.ofInt 64 (b : Int)).toNat : Int) = _
  rw [BitVec.toNat_and, ofInt_u64 a (by omega), ofInt_u64 b (by omega), IntKind.wrap_i64]
  omega

theorem mask_exp (x : Nat) : x &&& 2139095040 = x % 2147483648 / 8388608 * 8388608 := nat_midmask 31 23 x (by decide)
theorem mask_sign (x : Nat) (hx : x < 4294967296) : x &&& 2147483648 = x / 2147483648 * 2147483648 := by
  have h1 := nat_midmask 32 31 x (by decide)
  have h2 : x % 2 ^ 32 = x := Nat.mod_eq_of_lt hx
  rw [h2] at h1
  exact h1

/-- no exponent -/
def fsub (x : Nat) : Bool := decide (x % 2147483648 < 8388608)
theorem mask_fsub (x : Nat) : (x &&& 2139095040 = 0) ↔ fsub x = true := by
  unfold fsub
  rw [mask_exp]; simp; omega

theorem read_c126 : double.read 4039728865751334912 = .number false 4503599627370496 (-178) := by decide +kernel


theorem order_c126 (m : Nat) (e last : Int) (h1 : -1074 ≤ last) (h2 : last ≤ e) :
    (Datum.order (.number false (m <<< (e - last).toNat) last) (.number false 4503599627370496 (-178)) == some .lt) = decide (m * 2 ^ (e + 1074).toNat < 2 ^ 948) := by
  rw [order_units false false _ _ last (-178) (-1074) h1 (by decide)]
  have e1 : signed false (m <<< (e - last).toNat) (last - -1074).toNat = ((m * 2 ^ (e + 1074).toNat : Nat) : Int) := by
    unfold signed
    rw [Nat.shiftLeft_eq, Nat.shiftLeft_eq, Nat.mul_assoc, ← Nat.pow_add, show (e - last).toNat + (last - -1074).toNat = (e + 1074).toNat by omega]
    rfl
  have e2 : signed false 4503599627370496 (-178 - -1074 : Int).toNat = ((2 ^ 948 : Nat) : Int) := by
    unfold signed
    rw [Nat.shiftLeft_eq]
    have : (-178 - -1074 : Int).toNat = 896 := by decide
    rw [this]
    decide +kernel
  rw [e1, e2]
  generalize 2 ^ 948 = C
  generalize m * 2 ^ (e + 1074).toNat = A
  simp only [compare, compareOfLessAndEq]
  by_cases h : A < C
  · have : (A : Int) < (C : Int) := by omega
    simp [this, h]
  · have : ¬ (A : Int) < (C : Int) := by omega
    simp only [this, h, if_false, decide_false]
    split <;> rfl

theorem mul_pow_lt (a b k : Nat) (h : a < b) : a * 2 ^ k < b * 2 ^ k := Nat.mul_lt_mul_of_pos_right h (Nat.two_pow_pos _)
theorem mul_pow_le (a b j k : Nat) (h : a ≤ b) (hk : j ≤ k) : a * 2 ^ j ≤ b * 2 ^ k := Nat.mul_le_mul h (Nat.pow_le_pow_right (by decide) hk)
theorem widen_eq {x r : Nat} (hr : FS .f64 r (widen x)) (hn : fnan .f32 x = false) : r = widen x := by
  rcases hr with h | ⟨_, h2⟩
  · exact h
  · exfalso
    rcases mag_read32 x with ⟨s, t, e⟩ | ⟨s, e⟩ | hm
    · have : fnan .f32 x = true := isNaN_of_read ⟨s, t, e⟩
      rw [hn] at this; cases this
    · unfold widen at h2; rw [e] at h2
      have : fnan .f64 (double.write (.infinity s)) = false := by unfold fnan; show (double.read _).isNaN = false; rw [read_inf64]; rfl
      dsimp only at h2
      rw [this] at h2; cases h2
    · cases hd : single.read x with
      | infinity s => rw [hd] at hm; exact hm.elim
      | nan s t => rw [hd] at hm; exact hm.elim
      | number s m e =>
        rw [hd] at hm
        unfold widen at h2; rw [hd] at h2
        have : fnan .f64 (double.write (.number s m e)) = false := mag_not_nan (mag_write64 hm (by decide) (by decide))
        dsimp only at h2
        rw [this] at h2; cases h2

/-- what a 32-bit word reads as -/
theorem read32 (x : Nat) : single.read x =
    if x % 2147483648 < 8388608 then .number (x / 2147483648 % 2 == 1) (x % 2147483648) (-149)
    else if x % 2147483648 < 2139095040 then .number (x / 2147483648 % 2 == 1) (8388608 + x % 2147483648 % 8388608) (-149 + (x % 2147483648 / 8388608 - 1 : Nat))
    else if x % 2147483648 = 2139095040 then .infinity (x / 2147483648 % 2 == 1)
    else .nan (x / 2147483648 % 2 == 1) (x % 2147483648 - 2139095040) := by
  have h1 : single.signWeight = 2147483648 := by decide +kernel
  have h2 : single.binade = 8388608 := by decide +kernel
  have h3 : single.infRung = 2139095040 := by decide +kernel
  have h4 : single.leastPlace = -149 := by decide +kernel
  unfold Format.read
  dsimp only
  rw [h1, h2, h3, h4]

theorem write64_zero (s : Bool) (e : Int) : double.write (.number s 0 e) = double.word s 0 := by
  show double.nearest s 0 e = _
  unfold Format.nearest; rw [if_pos rfl]

theorem widen_subnormal {x r : Nat} (hr : FS .f64 r (widen x)) (hn : fnan .f32 x = false) :
    (FloatKind.f64.format.order (r % 9223372036854775808) 4039728865751334912 == some .lt) = fsub x := by
  have hw := widen_eq hr hn
  subst hw
  show (Datum.order (double.read (widen x % 9223372036854775808)) (double.read 4039728865751334912) == some .lt) = _
  rw [read_abs64, read_c126]
  have hrd := read32 x
  have hE : (3 : Nat) ≤ 2 ^ double.exponentBits := by decide +kernel
  have key : ∀ (s : Bool) (m : Nat) (e : Int), single.read x = .number s m e → m ≠ 0 → m < 16777216 → -149 ≤ e → e ≤ 200 →
      (Datum.order (dabs (double.read (widen x))) (.number false 4503599627370496 (-178)) == some .lt) = decide (m * 2 ^ (e + 1074).toNat < 2 ^ 948) := by
    intro s m e hre hm0 hm1 he1 he2
    have hwr : widen x = double.write (.number s m e) := by unfold widen; rw [hre]
    have hl : m.log2 < 24 := (Nat.log2_lt hm0).2 (by omega)
    obtain ⟨last, hlast, hle, hrd2⟩ := read_write_exact double s m e hm0 (by show m < 2 * 4503599627370496; omega) (by show (2 - 2 ^ 10 - 52 : Int) ≤ e; omega)
      (by show e + m.log2 + 3 ≤ (2048 : Int) + 52 + (2 - 2 ^ 10 - 52 : Int); omega) hE
    rw [hwr, hrd2]
    have hge : -1074 ≤ last := by
      rw [hlast]
      exact Int.le_trans (show (-1074 : Int) ≤ (2 - 2 ^ 10 - 52 : Int) by decide) (Int.le_max_right _ _)
    exact order_c126 m e last hge hle
  unfold fsub
  generalize hR : x % 2147483648 = R at *
  by_cases h1 : R < 8388608
  · rw [if_pos h1] at hrd
    rw [show decide (R < 8388608) = true by simpa using h1]
    by_cases h0 : R = 0
    · subst h0
      have hwr : widen x = double.write (.number (x / 2147483648 % 2 == 1) 0 (-149)) := by unfold widen; rw [hrd]
      rw [hwr, write64_zero]
      cases (x / 2147483648 % 2 == 1) <;> decide +kernel
    · rw [key _ _ _ hrd h0 (by omega) (by omega) (by omega)]
      have : (-149 + 1074 : Int).toNat = 925 := by decide
      rw [this]
      have h2 : 2 ^ 948 = 8388608 * 2 ^ 925 := by decide +kernel
      rw [h2]
      exact decide_eq_true (mul_pow_lt R 8388608 925 h1)
  · rw [if_neg h1] at hrd
    rw [show decide (R < 8388608) = false by simpa using h1]
    by_cases h2 : R < 2139095040
    · rw [if_pos h2] at hrd
      rw [key _ _ _ hrd (by omega) (by omega) (by omega) (by omega)]
      have h3 : 2 ^ 948 ≤ (8388608 + R % 8388608) * 2 ^ (-149 + ((R / 8388608 - 1 : Nat) : Int) + 1074).toNat := by
        have h4 : 2 ^ 948 = 8388608 * 2 ^ 925 := by decide +kernel
        rw [h4]
        exact mul_pow_le 8388608 _ 925 _ (by omega) (by omega)
      exact decide_eq_false (Nat.not_lt.2 h3)
    · rw [if_neg h2] at hrd
      by_cases h3 : R = 2139095040
      · rw [if_pos h3] at hrd
        have hwr : widen x = double.write (.infinity (x / 2147483648 % 2 == 1)) := by unfold widen; rw [hrd]
        rw [hwr, read_inf64]; rfl
      · rw [if_neg h3] at hrd
        have : fnan .f32 x = true := isNaN_of_read ⟨_, _, hrd⟩
        rw [hn] at this; cases this
end Go
