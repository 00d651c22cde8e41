/- Floats: the kinds of a 32-bit word, and what widening makes of each. -/
import Derived.Test.YtjebkagbknmdoaaLogp
import Derived.Test.YtjebkagbknmdoaaSub
namespace Go
open Ieee

theorem log2_bd {m : Nat} (h0 : m ≠ 0) : 2 ^ m.log2 ≤ m ∧ m < 2 ^ (m.log2 + 1) := ⟨Nat.log2_self_le h0, Nat.lt_log2_self⟩

/-- a positive finite 32-bit number, widened: a normal word -/
theorem widen_pos {x : Nat} (h0 : 0 < x) (hx : x < 2139095040) : 874 * 4503599627370496 ≤ widen x ∧ widen x < 1151 * 4503599627370496 := by
  have hrp := read_pos single (show x < single.infRung by rw [show single.infRung = 2139095040 from by decide +kernel]; exact hx)
  have hb : single.binade = 8388608 := by decide +kernel
  have hlp : single.leastPlace = -149 := by decide +kernel
  -- the datum and its size
  have hd : ∃ (m : Nat) (e : Int), single.read x = .number false m e ∧ m ≠ 0 ∧ m < 16777216 ∧ -149 ≤ e ∧ e + m.log2 ≤ 127 := by
    have h := read_word single false (show x < single.infRung by rw [show single.infRung = 2139095040 from by decide +kernel]; exact hx)
    rw [word_pos, hb, hlp] at h
    by_cases hs : x < 8388608
    · rw [if_pos hs] at h
      refine ⟨_, _, h, by omega, by omega, by decide, ?_⟩
      have := (Nat.log2_lt (show x ≠ 0 by omega)).2 (show x < 2 ^ 23 by omega)
      omega
    · rw [if_neg hs] at h
      refine ⟨_, _, h, by omega, by omega, by omega, ?_⟩
      have := (Nat.log2_lt (show 8388608 + x % 8388608 ≠ 0 by omega)).2 (show 8388608 + x % 8388608 < 2 ^ 24 by omega)
      omega
  obtain ⟨m, e, hr, hm0, hm1, he0, he1⟩ := hd
  have hw : widen x = double.nearest false m e := by unfold widen; rw [hr]; rfl
  have hl : m.log2 < 24 := (Nat.log2_lt hm0).2 (by omega)
  obtain ⟨j, hj⟩ : ∃ j : Nat, m.log2 + j = 52 := ⟨52 - m.log2, by omega⟩
  have hM1 : 4503599627370496 ≤ m * 2 ^ j := by
    have := Nat.mul_le_mul_right (2 ^ j) (log2_bd hm0).1
    rw [← Nat.pow_add, hj] at this
    simpa using this
  have hM2 : m * 2 ^ j < 9007199254740992 := by
    have := Nat.mul_lt_mul_of_pos_right (log2_bd hm0).2 (Nat.two_pow_pos j)
    rw [← Nat.pow_add, show m.log2 + 1 + j = 53 by omega] at this
    simpa using this
  have hb2 : double.binade = 4503599627370496 := by decide +kernel
  have hlp2 : double.leastPlace = -1074 := by decide +kernel
  rw [hw, ← nearest_scale double false m j e]
  have h := write_whole double false (m * 2 ^ j) (e - j) (by rw [hb2]; exact hM1) (by rw [hb2]; omega) (by rw [hlp2]; omega) (by rw [hlp2, hb2, inf64]; omega)
  rw [write_nearest, word_pos, hlp2, hb2] at h
  rw [h]
  generalize m * 2 ^ j = M at *
  omega
theorem lgE_widen {x : Nat} (h0 : 0 < x) (hx : x < 2139095040) : (lgE (widen x)).natAbs < 256 := by
  have := widen_pos h0 hx
  unfold lgE
  omega

/-- below zero -/
theorem order_neg (m : Nat) (e d : Int) (hm : m ≠ 0) : Datum.order (.number true m e) (.number false 0 d) = some .lt := by
  show some (compare (signed true m (e - min e d).toNat) (signed false 0 (d - min e d).toNat)) = _
  have e2 : signed false 0 (d - min e d).toNat = 0 := by unfold signed; simp
  have e1 : signed true m (e - min e d).toNat < 0 := by
    unfold signed
    rw [Nat.shiftLeft_eq]
    have : 0 < m * 2 ^ (e - min e d).toNat := Nat.mul_pos (Nat.pos_of_ne_zero hm) (Nat.two_pow_pos _)
    simp only [if_true]
    omega
  rw [e2]
  simp only [compare, compareOfLessAndEq, e1, if_true]
theorem read_zero32 : single.read 0 = .number false 0 (-149) := by decide +kernel
theorem read_zero64 : double.read 0 = .number false 0 (-1074) := by decide +kernel

/-- a negative 32-bit number that is no zero and no NaN -/
def fneg (x : Nat) : Prop := 2147483648 < x ∧ x ≤ 4286578688
theorem neg32 {x : Nat} (h : fneg x) : FloatKind.f32.format.order x 0 = some .lt := by
  obtain ⟨h1, h2⟩ := h
  show Datum.order (single.read x) (single.read 0) = _
  rw [read_zero32, read32]
  have hs : (x / 2147483648 % 2 == 1) = true := by rw [beq_iff_eq]; omega
  rw [hs]
  split
  · exact order_neg _ _ _ (by omega)
  · split
    · exact order_neg _ _ _ (by omega)
    · rw [if_pos (by omega)]; rfl
theorem neg64 {x : Nat} (h : fneg x) : FloatKind.f64.format.order (widen x) 0 = some .lt := by
  obtain ⟨h1, h2⟩ := h
  show Datum.order (double.read (widen x)) (double.read 0) = _
  rw [read_zero64]
  have hr := read32 x
  have hs : (x / 2147483648 % 2 == 1) = true := by rw [beq_iff_eq]; omega
  rw [hs] at hr
  have key : ∀ (m : Nat) (e : Int), single.read x = .number true m e → m ≠ 0 → m < 16777216 → -149 ≤ e → e ≤ 200 → Datum.order (double.read (widen x)) (.number false 0 (-1074)) = some .lt := by
    intro m e hre hm0 hm1 he1 he2
    have hl : m.log2 < 24 := (Nat.log2_lt hm0).2 (by omega)
    obtain ⟨last, hlast, hle, hrd2⟩ := read_write_exact double true m e hm0 (by show m < 2 * 4503599627370496; omega) (by show (2 - 2 ^ 10 - 52 : Int) ≤ e; omega)
      (by show e + m.log2 + 3 ≤ (2048 : Int) + 52 + (2 - 2 ^ 10 - 52 : Int); omega) (by decide +kernel)
    have hw : widen x = double.write (.number true m e) := by unfold widen; rw [hre]
    rw [hw, hrd2]
    refine order_neg _ _ _ ?_
    rw [Nat.shiftLeft_eq]
    exact Nat.mul_ne_zero hm0 (Nat.pos_iff_ne_zero.1 (Nat.two_pow_pos _))
  by_cases c1 : x % 2147483648 < 8388608
  · rw [if_pos c1] at hr
    exact key _ _ hr (by omega) (by omega) (by omega) (by omega)
  · rw [if_neg c1] at hr
    by_cases c2 : x % 2147483648 < 2139095040
    · rw [if_pos c2] at hr
      exact key _ _ hr (by omega) (by omega) (by omega) (by omega)
    · rw [if_neg c2, if_pos (by omega)] at hr
      have hw : widen x = double.write (.infinity true) := by unfold widen; rw [hr]
      rw [hw, read_inf64]; rfl
theorem neg_num {x : Nat} (h : fneg x) : fnan .f32 x = false := by
  cases hn : fnan .f32 x
  · rfl
  · have := neg32 h
    rw [order_nan_l hn] at this; cases this
theorem pos_num {x : Nat} (h : x ≤ 2139095040) : fnan .f32 x = false := by
  unfold fnan
  show (single.read x).isNaN = false
  rw [read32]
  split
  · rfl
  · split
    · rfl
    · rw [if_pos (by omega)]; rfl
/-- the five kinds -/
theorem kinds32 (x : Nat) (hx : x < 4294967296) : fnan .f32 x = true ∨ fneg x ∨ (x = 0 ∨ x = 2147483648) ∨ (0 < x ∧ x < 2139095040) ∨ x = 2139095040 := by
  by_cases h1 : x ≤ 2139095040
  · by_cases h2 : x = 0
    · exact .inr (.inr (.inl (.inl h2)))
    · by_cases h3 : x = 2139095040
      · exact .inr (.inr (.inr (.inr h3)))
      · exact .inr (.inr (.inr (.inl ⟨by omega, by omega⟩)))
  · by_cases h2 : x = 2147483648
    · exact .inr (.inr (.inl (.inr h2)))
    · by_cases h3 : fneg x
      · exact .inr (.inl h3)
      · refine .inl (nan32_of ?_)
        unfold fneg at h3
        omega
end Go
