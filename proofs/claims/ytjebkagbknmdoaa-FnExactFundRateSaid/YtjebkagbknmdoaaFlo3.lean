/- Floats: the order of positive words; halves and doubles; numbers that are not small. -/
import Derived.Test.YtjebkagbknmdoaaFlo2
namespace Go
open Ieee

/-! ### the order of words of no sign -/
/-- the number of least units of a rung -/
def units (B r : Nat) : Nat := if r < B then r else (B + r % B) * 2 ^ (r / B - 1)
theorem units_lt {B r r' : Nat} (hB : 0 < B) (h : r < r') : units B r < units B r' := by
  unfold units
  have hm : r % B < B := Nat.mod_lt _ hB
  have hm' : r' % B < B := Nat.mod_lt _ hB
  have hd : B * (r / B) + r % B = r := Nat.div_add_mod r B
  have hd' : B * (r' / B) + r' % B = r' := Nat.div_add_mod r' B
  by_cases h1 : r < B
  · rw [if_pos h1]
    by_cases h2 : r' < B
    · rw [if_pos h2]; exact h
    · rw [if_neg h2]
      have : B + r' % B ≤ (B + r' % B) * 2 ^ (r' / B - 1) := Nat.le_mul_of_pos_right _ (Nat.two_pow_pos _)
      omega
  · rw [if_neg h1, if_neg (by omega)]
    have hq : 1 ≤ r / B := (Nat.le_div_iff_mul_le hB).2 (by omega)
    have hle : r / B ≤ r' / B := Nat.div_le_div_right (by omega)
    by_cases he : r / B = r' / B
    · rw [← he]
      refine Nat.mul_lt_mul_of_pos_right ?_ (Nat.two_pow_pos _)
      rw [he] at hd; omega
    · have h3 : (B + r % B) * 2 ^ (r / B - 1) < (B + B) * 2 ^ (r / B - 1) := Nat.mul_lt_mul_of_pos_right (by omega) (Nat.two_pow_pos _)
      have h4 : (B + B) * 2 ^ (r / B - 1) = B * 2 ^ (r / B) := by
        have : r / B = (r / B - 1) + 1 := by omega
        rw [this, Nat.pow_succ, Nat.add_sub_cancel, ← Nat.two_mul, Nat.mul_comm 2 B, Nat.mul_assoc, Nat.mul_comm 2]
      have h5 : B * 2 ^ (r / B) ≤ B * 2 ^ (r' / B - 1) := Nat.mul_le_mul_left _ (Nat.pow_le_pow_right (by decide) (by omega))
      have h6 : B * 2 ^ (r' / B - 1) ≤ (B + r' % B) * 2 ^ (r' / B - 1) := Nat.mul_le_mul_right _ (by omega)
      omega
theorem compare_units {B x y : Nat} (hB : 0 < B) : compare ((units B x : Nat) : Int) ((units B y : Nat) : Int) = compare x y := by
  rcases Nat.lt_trichotomy x y with h | h | h
  · have h1 := units_lt hB h
    rw [Nat.compare_eq_lt.2 h]
    have : ((units B x : Nat) : Int) < ((units B y : Nat) : Int) := by omega
    simp only [compare, compareOfLessAndEq, this, if_true]
  · subst h
    rw [Nat.compare_eq_eq.2 rfl]
    simp [compare, compareOfLessAndEq]
  · have h1 := units_lt hB h
    rw [Nat.compare_eq_gt.2 h]
    have h2 : ¬ ((units B x : Nat) : Int) < ((units B y : Nat) : Int) := by omega
    have h3 : ¬ ((units B x : Nat) : Int) = ((units B y : Nat) : Int) := by omega
    simp only [compare, compareOfLessAndEq, h2, h3, if_false]
theorem read_pos (f : Format) {x : Nat} (hx : x < f.infRung) : ∃ (m : Nat) (e : Int), f.read x = .number false m e ∧ f.leastPlace ≤ e ∧ m * 2 ^ (e - f.leastPlace).toNat = units f.binade x := by
  have h := read_word f false hx
  have hw : f.word false x = x := rfl
  rw [hw] at h
  rw [h]
  unfold units
  split
  · exact ⟨_, _, rfl, Int.le_refl _, by simp⟩
  · refine ⟨_, _, rfl, by omega, ?_⟩
    congr 2
    omega
theorem order_pos (f : Format) {x y : Nat} (hx : x < f.infRung) (hy : y < f.infRung) : f.order x y = some (compare x y) := by
  obtain ⟨m, e, h1, h2, h3⟩ := read_pos f hx
  obtain ⟨n, d, g1, g2, g3⟩ := read_pos f hy
  unfold Format.order
  rw [h1, g1, order_units false false m n e d f.leastPlace h2 g2]
  have e1 : signed false m (e - f.leastPlace).toNat = ((units f.binade x : Nat) : Int) := by unfold signed; rw [← h3, Nat.shiftLeft_eq]; rfl
  have e2 : signed false n (d - f.leastPlace).toNat = ((units f.binade y : Nat) : Int) := by unfold signed; rw [← g3, Nat.shiftLeft_eq]; rfl
  rw [e1, e2, compare_units (show 0 < f.binade from Nat.two_pow_pos _)]

/-! ### rounding does not mind the unit -/
theorem log2_mul_pow (m j : Nat) (hm : m ≠ 0) : (m * 2 ^ j).log2 = m.log2 + j := by
  have h1 : m < 2 ^ (m.log2 + 1) := Nat.lt_log2_self
  have h2 : 2 ^ m.log2 ≤ m := Nat.log2_self_le hm
  have hp : 0 < 2 ^ j := Nat.two_pow_pos j
  have hne : m * 2 ^ j ≠ 0 := Nat.mul_ne_zero hm (by omega)
  have h3 : m * 2 ^ j < 2 ^ (m.log2 + j + 1) := by
    have : 2 ^ (m.log2 + j + 1) = 2 ^ (m.log2 + 1) * 2 ^ j := by rw [← Nat.pow_add]; congr 1; omega
    rw [this]; exact Nat.mul_lt_mul_of_pos_right h1 hp
  have h4 : 2 ^ (m.log2 + j) ≤ m * 2 ^ j := by rw [Nat.pow_add]; exact Nat.mul_le_mul_right _ h2
  have a := (Nat.log2_lt hne).2 h3
  have b := (Nat.le_log2 hne).2 h4
  omega
theorem cut_scale (way : Toward) (neg : Bool) (n d j : Nat) (hn : n ≠ 0) : way.cut neg (n * 2 ^ j) (d + j) = way.cut neg n d := by
  unfold Toward.cut
  dsimp only
  rw [log2_mul_pow n j hn, Nat.one_shiftLeft, Nat.one_shiftLeft]
  have hmin : min (d + j) (n.log2 + j + 2) = min d (n.log2 + 2) + j := by omega
  rw [hmin, Nat.pow_add]
  have hp : 0 < 2 ^ j := Nat.two_pow_pos j
  rw [Nat.mul_div_mul_right _ _ hp, Nat.mul_mod_mul_right]
  generalize 2 ^ min d (n.log2 + 2) = g
  generalize n % g = r
  generalize n / g = q
  generalize 2 ^ j = P at *
  have c1 : decide (g * P < 2 * (r * P)) = decide (g < 2 * r) := by
    rw [← Nat.mul_assoc]
    exact decide_eq_decide.2 (Nat.mul_lt_mul_right hp)
  have c2 : (g * P == 2 * (r * P)) = (g == 2 * r) := by
    rw [← Nat.mul_assoc]
    rw [Bool.eq_iff_iff, beq_iff_eq, beq_iff_eq]
    exact Nat.mul_right_cancel_iff hp
  have c3 : (r * P != 0) = (r != 0) := by
    rw [Bool.eq_iff_iff, bne_iff_ne, bne_iff_ne]
    exact ⟨fun h h0 => h (by rw [h0, Nat.zero_mul]), fun h h0 => by rcases Nat.mul_eq_zero.1 h0 with h1 | h1 <;> omega⟩
  rw [c1, c2, c3]
theorem cut_shift (way : Toward) (neg : Bool) (n : Nat) (p : Int) (hn : n ≠ 0) (j : Nat) :
    way.cut neg ((n * 2 ^ j) <<< (p - j).toNat) ((j : Int) - p).toNat = way.cut neg (n <<< p.toNat) (-p).toNat := by
  rw [Nat.shiftLeft_eq, Nat.shiftLeft_eq]
  by_cases h1 : (j : Int) ≤ p
  · have e1 : ((j : Int) - p).toNat = 0 := by omega
    have e2 : (-p).toNat = 0 := by omega
    have e3 : n * 2 ^ j * 2 ^ (p - j).toNat = n * 2 ^ p.toNat := by
      rw [Nat.mul_assoc, ← Nat.pow_add]; congr 2; omega
    rw [e1, e2, e3]
  · have e1 : (p - j).toNat = 0 := by omega
    rw [e1, Nat.pow_zero, Nat.mul_one]
    by_cases h2 : 0 ≤ p
    · have e2 : (-p).toNat = 0 := by omega
      have e3 : n * 2 ^ j = (n * 2 ^ p.toNat) * 2 ^ ((j : Int) - p).toNat := by
        rw [Nat.mul_assoc, ← Nat.pow_add]; congr 2; omega
      rw [e3, e2]
      have := cut_scale way neg (n * 2 ^ p.toNat) 0 ((j : Int) - p).toNat (Nat.mul_ne_zero hn (Nat.pos_iff_ne_zero.1 (Nat.two_pow_pos _)))
      rw [Nat.zero_add] at this
      exact this
    · have e2 : p.toNat = 0 := by omega
      have e3 : ((j : Int) - p).toNat = (-p).toNat + j := by omega
      rw [e2, Nat.pow_zero, Nat.mul_one, e3]
      exact cut_scale way neg n _ j hn
theorem nearest_scale (f : Format) (neg : Bool) (m j : Nat) (e : Int) : f.nearest neg (m * 2 ^ j) (e - j) = f.nearest neg m e := by
  by_cases hm : m = 0
  · subst hm; unfold Format.nearest; simp
  · have hne : m * 2 ^ j ≠ 0 := Nat.mul_ne_zero hm (Nat.pos_iff_ne_zero.1 (Nat.two_pow_pos j))
    unfold Format.nearest
    rw [if_neg hne, if_neg hm]
    dsimp only
    rw [log2_mul_pow m j hm]
    have hl : e - (j : Int) + ((m.log2 + j : Nat) : Int) - f.fractionBits = e + (m.log2 : Int) - f.fractionBits := by omega
    rw [hl]
    generalize max (e + (m.log2 : Int) - f.fractionBits) f.leastPlace = last
    have e1 : (e - (j : Int) - last) = (e - last) - j := by omega
    have e2 : (last - (e - (j : Int))) = (j : Int) - (e - last) := by omega
    have e3 : (last - e) = -(e - last) := by omega
    rw [e1, e2, e3, cut_shift _ _ _ _ hm]

/-- a whole significand at its place is its own word -/
theorem write_whole (f : Format) (s : Bool) (m : Nat) (e : Int) (h0 : f.binade ≤ m) (h1 : m < 2 * f.binade) (h2 : f.leastPlace ≤ e) (h3 : (e - f.leastPlace).toNat * f.binade + m < f.infRung) :
    f.write (.number s m e) = f.word s ((e - f.leastPlace).toNat * f.binade + m) := by
  have hB : 0 < f.binade := Nat.two_pow_pos _
  have hl : m.log2 = f.fractionBits := by
    have a := (Nat.log2_lt (by omega)).2 (show m < 2 ^ (f.fractionBits + 1) by rw [Nat.pow_succ]; unfold Format.binade at h1; omega)
    have b := (Nat.le_log2 (by omega)).2 (show 2 ^ f.fractionBits ≤ m from h0)
    omega
  rw [write_number f s m e (by omega)]
  unfold rungOf
  dsimp only
  rw [hl]
  have hmax : max (e + (f.fractionBits : Int) - f.fractionBits) f.leastPlace = e := by omega
  rw [hmax, Int.sub_self]
  have : (0 : Int).toNat = 0 := rfl
  rw [this, cut_zero, Nat.shiftLeft_eq, Nat.pow_zero, Nat.mul_one, Nat.min_eq_left (by omega)]
theorem read_whole (f : Format) {x : Nat} (h0 : f.binade ≤ x) (hx : x < f.infRung) : ∃ (m : Nat) (e : Int), f.read x = .number false m e ∧ f.binade ≤ m ∧ m < 2 * f.binade ∧ f.leastPlace ≤ e ∧ x = (e - f.leastPlace).toNat * f.binade + m := by
  have hB : 0 < f.binade := Nat.two_pow_pos _
  have h := read_word f false hx
  have hw : f.word false x = x := rfl
  rw [hw, if_neg (by omega)] at h
  have hm := Nat.mod_lt x hB
  have hd := Nat.div_add_mod x f.binade
  have hq : 1 ≤ x / f.binade := (Nat.le_div_iff_mul_le hB).2 (by omega)
  obtain ⟨q, hq'⟩ : ∃ q, x / f.binade = q + 1 := ⟨x / f.binade - 1, by omega⟩
  refine ⟨_, _, h, by omega, by omega, by omega, ?_⟩
  have e1 : (f.leastPlace + ((x / f.binade - 1 : Nat) : Int) - f.leastPlace).toNat = q := by omega
  rw [e1]
  rw [hq', Nat.mul_add, Nat.mul_one, Nat.mul_comm] at hd
  omega

theorem word_pos (f : Format) (r : Nat) : f.word false r = r := rfl
theorem write_nearest (f : Format) (s : Bool) (m : Nat) (e : Int) : f.write (.number s m e) = f.nearest s m e := rfl
theorem read_two : double.read 4611686018427387904 = .number false 4503599627370496 (-51) := by decide +kernel
/-- half of a number -/
theorem half64 {x : Nat} (h0 : 9007199254740992 ≤ x) (hx : x < double.infRung) : fop .quo .f64 x 4611686018427387904 = x - 4503599627370496 := by
  have hb : double.binade = 4503599627370496 := by decide +kernel
  have hlp : double.leastPlace = -1074 := by decide +kernel
  obtain ⟨m, e, h1, h2, h3, h4, h5⟩ := read_whole double (by rw [hb]; omega) hx
  rw [hb] at h2 h3 h5
  rw [hlp] at h4 h5
  have hl : m.log2 = 52 := by
    have a := (Nat.log2_lt (by omega)).2 (show m < 2 ^ 53 by omega)
    have b := (Nat.le_log2 (by omega)).2 (show 2 ^ 52 ≤ m by omega)
    omega
  have hq : (Datum.number false m e).quotient 54 (.number false 4503599627370496 (-51)) = some (.number false (m * 2 ^ 3) (e - 4)) := by
    simp only [Datum.quotient]
    rw [if_neg (by decide)]
    have hl2 : (4503599627370496 : Nat).log2 = 52 := by decide +kernel
    rw [hl2, hl]
    have hs : m <<< (54 + 52 - 52) = (m * 4) * 4503599627370496 := by rw [Nat.shiftLeft_eq]; omega
    rw [hs, Nat.mul_div_cancel _ (by decide), Nat.mul_mod_left]
    have e2 : (2 * (m * 4) + ((0 : Nat) != 0).toNat) = m * 2 ^ 3 := by
      show 2 * (m * 4) + 0 = m * 8
      omega
    have e3 : e - -51 - ((54 + 52 - 52 : Nat) : Int) - 1 = e - 4 := by omega
    rw [e2, e3]
    rfl
  unfold fop floatBits
  dsimp only
  show ((double.div x 4611686018427387904)).getD _ = _
  unfold Format.div
  rw [h1, read_two]
  show (((Datum.number false m e).quotient 54 _).map double.write).getD _ = _
  rw [hq]
  show double.nearest false (m * 2 ^ 3) (e - 4) = _
  have e4 : e - 4 = (e - 1) - ((3 : Nat) : Int) := by omega
  rw [e4, nearest_scale]
  have hge : 1 ≤ (e - -1074).toNat := by
    rcases Nat.eq_zero_or_pos (e - -1074).toNat with h | h
    · rw [h] at h5; omega
    · exact h
  have hlt : (e - 1 - -1074).toNat * 4503599627370496 + m = x - 4503599627370496 := by
    have : (e - -1074).toNat = (e - 1 - -1074).toNat + 1 := by omega
    rw [this, Nat.add_mul] at h5
    omega
  have := write_whole double false m (e - 1) (by rw [hb]; exact h2) (by rw [hb]; exact h3) (by rw [hlp]; omega) (by rw [hlp, hb, hlt]; omega)
  rw [hlp, hb, hlt, word_pos, write_nearest] at this
  exact this
/-- twice a number -/
theorem twice64 {x : Nat} (h0 : 4503599627370496 ≤ x) (hx : x + 4503599627370496 < double.infRung) : fop .mul .f64 x 4611686018427387904 = x + 4503599627370496 := by
  have hb : double.binade = 4503599627370496 := by decide +kernel
  have hlp : double.leastPlace = -1074 := by decide +kernel
  obtain ⟨m, e, h1, h2, h3, h4, h5⟩ := read_whole double (by rw [hb]; omega) (show x < double.infRung by omega)
  rw [hb] at h2 h3 h5
  rw [hlp] at h4 h5
  unfold fop floatBits
  dsimp only
  show ((double.mul x 4611686018427387904)).getD _ = _
  unfold Format.mul
  rw [h1, read_two]
  have hp : (Datum.number false m e).product (.number false 4503599627370496 (-51)) = some (.number false (m * 4503599627370496) (e + -51)) := rfl
  rw [hp, Option.map_some, Option.getD_some, write_nearest]
  have e4 : e + -51 = (e + 1) - ((52 : Nat) : Int) := by omega
  have e6 : (4503599627370496 : Nat) = 2 ^ 52 := by simp only [Nat.reducePow]
  have e5 : m * 4503599627370496 = m * 2 ^ 52 := congrArg (m * ·) e6
  rw [e4, e5, nearest_scale]
  clear e4 e5 e6
  have hlt : (e + 1 - -1074).toNat * 4503599627370496 + m = x + 4503599627370496 := by
    have : (e + 1 - -1074).toNat = (e - -1074).toNat + 1 := by omega
    rw [this, Nat.add_mul]
    omega
  have := write_whole double false m (e + 1) (by rw [hb]; exact h2) (by rw [hb]; exact h3) (by rw [hlp]; omega) (by rw [hlp, hb, hlt]; omega)
  rw [hlp, hb, hlt, word_pos, write_nearest] at this
  exact this
end Go
