/- The logarithm's steps, as plain functions of words; they stay small. -/
import Derived.Test.YtjebkagbknmdoaaFlo3
import Derived.Laws.Cover2
namespace Go
open Ieee

theorem fnan_pos {x : Nat} (h : x < double.infRung) : fnan .f64 x = false := by
  obtain ⟨m, e, h1, _⟩ := read_pos double h
  unfold fnan
  show (double.read x).isNaN = false
  rw [h1]; rfl
theorem FS.eq {k : FloatKind} {r v : Nat} (h : FS k r v) (hv : fnan k v = false) : r = v := by
  rcases h with h | ⟨_, h⟩
  · exact h
  · rw [hv] at h; cases h

/-- e and x with number = x * 2^e, x from 3/4 on and below 3/2 -/
def lgE (x : Nat) : Int := ((x : Int) - 4604930618986332160) / 4503599627370496
def lgX (x : Nat) : Nat := (4604930618986332160 + ((x : Int) - 4604930618986332160) % 4503599627370496).toNat
theorem lg_uniq {x0 x : Nat} {e : Int} (h : (x : Int) = x0 - e * 4503599627370496) (h1 : 4604930618986332160 ≤ x) (h2 : x < 4609434218613702656) : x = lgX x0 ∧ e = lgE x0 := by
  unfold lgX lgE; omega
theorem lgX_bd (x0 : Nat) : 4604930618986332160 ≤ lgX x0 ∧ lgX x0 < 4609434218613702656 := by unfold lgX; omega

def fqn (u : Nat) : Nat → Nat
  | 0 => 0
  | i + 1 => fop .add .f64 (fop .quo .f64 4607182418800017408 (floatOfInt .f64 (25 - 2 * (i : Int)))) (fop .mul .f64 u (fqn u i))
def fls (x : Nat) : Nat := fop .quo .f64 (fop .sub .f64 x 4607182418800017408) (fop .add .f64 x 4607182418800017408)
def flog (x0 : Nat) : Nat :=
  fop .add .f64 (fop .mul .f64 4611686018427387904 (fop .mul .f64 (fls (lgX x0)) (fqn (fop .mul .f64 (fls (lgX x0)) (fls (lgX x0))) 13))) (fop .mul .f64 (floatOfInt .f64 (lgE x0)) 4604418534313441775)

/-! ### bounds -/
theorem mag_fop {op : BinOp} {x y : Nat} {d : Datum} {k : Int} (h : (match op with | .add => (double.read x).sum (double.read y) | .sub => (double.read x).sum (double.read y).opposite | .mul => (double.read x).product (double.read y) | .quo => (double.read x).quotient 54 (double.read y) | _ => none) = some d) (hm : Mag k d) (h1 : -1021 ≤ k) (h2 : k ≤ 1023) :
    Mag (k + 1) (double.read (fop op .f64 x y)) := by
  have : fop op .f64 x y = double.write d := by
    cases op <;> simp only at h <;> first | (cases h; done) | skip
    all_goals
      unfold fop floatBits
      dsimp only
    · show ((double.add x y)).getD _ = _
      unfold Format.add; rw [h]; rfl
    · show ((double.sub x y)).getD _ = _
      unfold Format.sub; rw [h]; rfl
    · show ((double.mul x y)).getD _ = _
      unfold Format.mul; rw [h]; rfl
    · show ((double.div x y)).getD _ = _
      unfold Format.div
      show (Option.map double.write ((double.read x).quotient 54 (double.read y))).getD _ = _
      rw [h]; rfl
  rw [this]
  exact mag_write64 hm h1 h2
theorem mag_add {x y : Nat} {k : Int} (hx : Mag k (double.read x)) (hy : Mag k (double.read y)) (h1 : -1021 ≤ k + 1) (h2 : k + 1 ≤ 1023) : Mag (k + 2) (double.read (fop .add .f64 x y)) := by
  obtain ⟨d, h, hm⟩ := mag_sum hx hy
  have := mag_fop (op := .add) h hm h1 h2
  rwa [show k + 1 + 1 = k + 2 by omega] at this
theorem mag_mul {x y : Nat} {j k : Int} (hx : Mag j (double.read x)) (hy : Mag k (double.read y)) (h1 : -1021 ≤ j + k) (h2 : j + k ≤ 1023) : Mag (j + k + 1) (double.read (fop .mul .f64 x y)) := by
  obtain ⟨d, h, hm⟩ := mag_product hx hy
  exact mag_fop (op := .mul) h hm h1 h2
theorem mag_quo {x y : Nat} {j k : Int} (hx : Mag j (double.read x)) (hy : Big k (double.read y)) (h1 : -1021 ≤ j - k) (h2 : j - k ≤ 1023) : Mag (j - k + 1) (double.read (fop .quo .f64 x y)) := by
  obtain ⟨d, h, hm⟩ := mag_quotient 54 hx hy
  exact mag_fop (op := .quo) h hm h1 h2

/-- what a double of no sign reads as, told by its word -/
theorem read_at {x : Nat} {q : Nat} (h0 : (q + 1) * 4503599627370496 ≤ x) (h1 : x < (q + 2) * 4503599627370496) (hx : x < double.infRung) :
    double.read x = .number false (x - q * 4503599627370496) (-1074 + q) := by
  have hb : double.binade = 4503599627370496 := by decide +kernel
  have hlp : double.leastPlace = -1074 := by decide +kernel
  have h := read_word double false hx
  rw [word_pos, hb, hlp, if_neg (by omega)] at h
  rw [h]
  have e1 : x / 4503599627370496 = q + 1 := by omega
  have e2 : 4503599627370496 + x % 4503599627370496 = x - q * 4503599627370496 := by omega
  rw [e1, e2]
  congr 1
theorem read_one : double.read 4607182418800017408 = .number false 4503599627370496 (-52) := by decide +kernel
theorem inf64 : double.infRung = 9218868437227405312 := by decide +kernel

/-- x - 1 and x + 1 for x from 3/4 on and below 3/2 -/
theorem mag_less {x : Nat} (h1 : 4604930618986332160 ≤ x) (h2 : x < 4609434218613702656) : Mag 0 (double.read (fop .sub .f64 x 4607182418800017408)) := by
  have key : ∀ (m : Nat) (e : Int), (e = -53 ∧ 6755399441055744 ≤ m ∧ m < 9007199254740992) ∨ (e = -52 ∧ 4503599627370496 ≤ m ∧ m < 6755399441055744) → double.read x = .number false m e → Mag 0 (double.read (fop .sub .f64 x 4607182418800017408)) := by
    intro m e hme hr
    refine mag_fop (x := x) (y := 4607182418800017408) (k := -1) (op := .sub) (d := _) (by dsimp only; rw [hr, read_one]; rfl) ?_ (by decide) (by decide)
    show ((signed false m (e - min e (-52)).toNat + signed true 4503599627370496 (-52 - min e (-52)).toNat).natAbs = 0 ∨ min e (-52) + ((signed false m (e - min e (-52)).toNat + signed true 4503599627370496 (-52 - min e (-52)).toNat).natAbs.log2 : Int) < -1)
    have hlog : ∀ n : Nat, n < 4503599627370496 → n = 0 ∨ n.log2 < 52 := by
      intro n hn
      by_cases h0 : n = 0
      · exact .inl h0
      · exact .inr ((Nat.log2_lt h0).2 (by omega))
    have hlog2 : ∀ n : Nat, n < 2251799813685248 → n = 0 ∨ n.log2 < 51 := by
      intro n hn
      by_cases h0 : n = 0
      · exact .inl h0
      · exact .inr ((Nat.log2_lt h0).2 (by omega))
    rcases hme with ⟨rfl, ha, hb⟩ | ⟨rfl, ha, hb⟩
    · have e1 : (-53 - min (-53) (-52) : Int).toNat = 0 := by decide
      have e2 : (-52 - min (-53) (-52) : Int).toNat = 1 := by decide
      have e3 : min (-53) (-52 : Int) = -53 := by decide
      rw [e1, e2, e3]
      have s1 : signed false m 0 = (m : Int) := by unfold signed; simp
      have s2 : signed true 4503599627370496 1 = -9007199254740992 := by decide +kernel
      rw [s1, s2]
      rcases hlog ((m : Int) + -9007199254740992).natAbs (by omega) with h | h
      · exact .inl h
      · exact .inr (by omega)
    · have e1 : (-52 - min (-52) (-52) : Int).toNat = 0 := by decide
      have e3 : min (-52) (-52 : Int) = -52 := by decide
      rw [e1, e3]
      have s1 : signed false m 0 = (m : Int) := by unfold signed; simp
      have s2 : signed true 4503599627370496 0 = -4503599627370496 := by decide +kernel
      rw [s1, s2]
      rcases hlog2 ((m : Int) + -4503599627370496).natAbs (by omega) with h | h
      · exact .inl h
      · exact .inr (by omega)
  have hinf : x < double.infRung := by rw [inf64]; omega
  by_cases h : x < 4607182418800017408
  · refine key _ _ (.inl ⟨?_, ?_, ?_⟩) (read_at (q := 1021) (by omega) (by omega) hinf)
    · decide
    · omega
    · omega
  · refine key _ _ (.inr ⟨?_, ?_, ?_⟩) (read_at (q := 1022) (by omega) (by omega) hinf)
    · decide
    · omega
    · omega

theorem cut_ge (neg : Bool) (n drop : Nat) : n / 2 ^ drop ≤ Toward.even.cut neg n drop := by
  unfold Toward.cut
  dsimp only
  rw [Nat.one_shiftLeft]
  by_cases hd : drop ≤ n.log2 + 2
  · rw [Nat.min_eq_left hd]; exact Nat.le_add_right _ _
  · have h0 : n < 2 ^ (n.log2 + 1) := Nat.lt_log2_self
    have h1 : 2 ^ (n.log2 + 1) ≤ 2 ^ drop := Nat.pow_le_pow_right (by decide) (by omega)
    rw [Nat.div_eq_of_lt (show n < 2 ^ drop by omega)]
    exact Nat.zero_le _

/-- ROUNDING: what is at least 2 ^ k stays so -/
theorem big_write64 {d : Datum} {k : Int} (h : Big k d) (hm : Mag 1023 d) (hk : -1022 ≤ k) : Big k (double.read (double.write d)) := by
  cases d with
  | infinity s => exact h.elim
  | nan s t => exact h.elim
  | number neg mag place =>
    obtain ⟨h0, h1⟩ := h
    have hk2 : place + mag.log2 < 1023 := by
      rcases hm with h | h
      · exact absurd h h0
      · exact h
    have hb : double.binade = 2 ^ 52 := rfl
    have hB : 0 < double.binade := Nat.two_pow_pos _
    have hlp : double.leastPlace = -1074 := by decide +kernel
    have hfb : double.fractionBits = 52 := rfl
    rw [write_number double neg mag place h0]
    have hr := rungOf_le double neg mag place h0
    have hmax : max (place + mag.log2 - double.fractionBits) double.leastPlace = place + mag.log2 - 52 := by rw [hfb, hlp]; omega
    rw [hmax, hlp] at hr
    have hlo : ((place + mag.log2 - 52 - -1074).toNat + 1) * double.binade ≤ rungOf double neg mag place := by
      unfold rungOf
      dsimp only
      rw [hmax, hlp, Nat.add_mul, Nat.one_mul]
      refine Nat.add_le_add_left ?_ _
      refine Nat.le_trans ?_ (cut_ge _ _ _)
      rw [hb, Nat.le_div_iff_mul_le (Nat.two_pow_pos _), ← Nat.pow_add, Nat.shiftLeft_eq]
      have h2 : 2 ^ mag.log2 ≤ mag := Nat.log2_self_le h0
      refine Nat.le_trans ?_ (Nat.mul_le_mul_right _ h2)
      rw [← Nat.pow_add]
      exact Nat.pow_le_pow_right (by decide) (by omega)
    generalize rungOf double neg mag place = rung at *
    have hinf : rung < double.infRung := by
      refine Nat.lt_of_le_of_lt hr ?_
      have : double.infRung = 2047 * double.binade := rfl
      rw [this]
      exact Nat.mul_lt_mul_of_pos_right (by omega) hB
    have hge : double.binade ≤ rung := Nat.le_trans (Nat.le_mul_of_pos_left _ (by omega)) hlo
    rw [Nat.min_eq_left (by omega), read_word double neg hinf, if_neg (by omega), hlp]
    have hq : (place + mag.log2 - 52 - -1074).toNat + 1 ≤ rung / double.binade := (Nat.le_div_iff_mul_le hB).2 hlo
    refine ⟨by omega, ?_⟩
    have hl : 52 ≤ (double.binade + rung % double.binade).log2 := (Nat.le_log2 (by omega)).2 (by rw [hb]; exact Nat.le_add_right _ _)
    generalize (double.binade + rung % double.binade).log2 = l at *
    generalize rung / double.binade = q at *
    omega

theorem big_more {x : Nat} (h1 : 4604930618986332160 ≤ x) (h2 : x < 4609434218613702656) : Big 0 (double.read (fop .add .f64 x 4607182418800017408)) := by
  have key : ∀ (m : Nat) (e : Int), (e = -53 ∧ 6755399441055744 ≤ m ∧ m < 9007199254740992) ∨ (e = -52 ∧ 4503599627370496 ≤ m ∧ m < 6755399441055744) → double.read x = .number false m e → Big 0 (double.read (fop .add .f64 x 4607182418800017408)) := by
    intro m e hme hr
    have hmag : Mag 2 (double.read x) := by
      rw [hr]
      refine .inr ?_
      have : m.log2 < 53 := (Nat.log2_lt (by omega)).2 (by omega)
      omega
    have hone : Mag 2 (double.read 4607182418800017408) := by rw [read_one]; exact .inr (by decide +kernel)
    obtain ⟨d, hd, hdm⟩ := mag_sum hmag hone
    have hf : fop .add .f64 x 4607182418800017408 = double.write d := by
      unfold fop floatBits
      dsimp only
      show ((double.add x 4607182418800017408)).getD _ = _
      unfold Format.add; rw [hd]; rfl
    rw [hf]
    refine big_write64 ?_ (mag_mono hdm (by decide)) (by decide)
    rw [hr, read_one] at hd
    have hd2 : d = .number (if signed false m (e - min e (-52)).toNat + signed false 4503599627370496 (-52 - min e (-52)).toNat = 0 then false && false else decide (signed false m (e - min e (-52)).toNat + signed false 4503599627370496 (-52 - min e (-52)).toNat < 0))
        (signed false m (e - min e (-52)).toNat + signed false 4503599627370496 (-52 - min e (-52)).toNat).natAbs (min e (-52)) := by
      injection hd with hd
      rw [← hd]
    rw [hd2]
    have hge : ∀ n : Nat, ∀ k : Nat, 2 ^ k ≤ n → n ≠ 0 ∧ k ≤ n.log2 := fun n k h => by
      have hp : 0 < 2 ^ k := Nat.two_pow_pos k
      exact ⟨by omega, (Nat.le_log2 (by omega)).2 h⟩
    rcases hme with ⟨rfl, ha, hb⟩ | ⟨rfl, ha, hb⟩
    · have e1 : (-53 - min (-53) (-52) : Int).toNat = 0 := by decide
      have e2 : (-52 - min (-53) (-52) : Int).toNat = 1 := by decide
      have e3 : min (-53) (-52 : Int) = -53 := by decide
      rw [e1, e2, e3]
      have s1 : signed false m 0 = (m : Int) := by unfold signed; simp
      have s2 : signed false 4503599627370496 1 = 9007199254740992 := by decide +kernel
      rw [s1, s2]
      have := hge ((m : Int) + 9007199254740992).natAbs 53 (by simp only [Nat.reducePow]; omega)
      exact ⟨this.1, by have := this.2; omega⟩
    · have e1 : (-52 - min (-52) (-52) : Int).toNat = 0 := by decide
      have e3 : min (-52) (-52 : Int) = -52 := by decide
      rw [e1, e3]
      have s1 : signed false m 0 = (m : Int) := by unfold signed; simp
      have s2 : signed false 4503599627370496 0 = 4503599627370496 := by decide +kernel
      rw [s1, s2]
      have := hge ((m : Int) + 4503599627370496).natAbs 52 (by simp only [Nat.reducePow]; omega)
      exact ⟨this.1, by have := this.2; omega⟩
  have hinf : x < double.infRung := by rw [inf64]; omega
  by_cases h : x < 4607182418800017408
  · refine key _ _ (.inl ⟨?_, ?_, ?_⟩) (read_at (q := 1021) (by omega) (by omega) hinf)
    · decide
    · omega
    · omega
  · refine key _ _ (.inr ⟨?_, ?_, ?_⟩) (read_at (q := 1022) (by omega) (by omega) hinf)
    · decide
    · omega
    · omega

theorem mag_fls {x : Nat} (h1 : 4604930618986332160 ≤ x) (h2 : x < 4609434218613702656) : Mag 1 (double.read (fls x)) :=
  mag_quo (mag_less h1 h2) (big_more h1 h2) (by decide) (by decide)
/-- a whole number as a double -/
theorem mag_int {n : Int} {k : Nat} (h : n.natAbs < 2 ^ k) (hk : k ≤ 1000) : Mag (k + 1) (double.read (floatOfInt .f64 n)) := by
  refine mag_write64 (d := .number (n < 0) n.natAbs 0) (k := (k : Int)) ?_ (by omega) (by omega)
  by_cases h0 : n.natAbs = 0
  · exact .inl h0
  · exact .inr (by have := (Nat.log2_lt h0).2 h; omega)
theorem mag_inv (i : Nat) (hi : i < 13) : Mag 2 (double.read (fop .quo .f64 4607182418800017408 (floatOfInt .f64 (25 - 2 * (i : Int))))) := by
  have h : ∀ i : Fin 13, (match double.read (fop .quo .f64 4607182418800017408 (floatOfInt .f64 (25 - 2 * ((i : Nat) : Int)))) with | .number _ m e => decide (m = 0 ∨ e + m.log2 < 2) | _ => false) = true := by decide +kernel
  have h2 := h ⟨i, hi⟩
  dsimp only at h2
  cases hd : double.read (fop .quo .f64 4607182418800017408 (floatOfInt .f64 (25 - 2 * (i : Int)))) with
  | number s m e => rw [hd] at h2; exact of_decide_eq_true (p := m = 0 ∨ e + (m.log2 : Int) < 2) h2
  | infinity s => rw [hd] at h2; cases h2
  | nan s t => rw [hd] at h2; cases h2
theorem mag_fqn {u : Nat} (hu : Mag 3 (double.read u)) : ∀ i : Nat, i ≤ 13 → Mag (6 * i + 2) (double.read (fqn u i))
  | 0, _ => by
    have : double.read 0 = .number false 0 (-1074) := by decide +kernel
    show Mag _ (double.read 0)
    rw [this]; exact .inl rfl
  | i + 1, hi => by
    have h1 := mag_fqn hu i (by omega)
    have h2 := mag_mul hu h1 (by omega) (by omega)
    have h3 := mag_inv i (by omega)
    have h4 := mag_add (mag_mono h3 (show (2 : Int) ≤ 3 + (6 * i + 2) + 1 by omega)) h2 (by omega) (by omega)
    exact mag_mono h4 (by push_cast; omega)
theorem mag_flog {x0 : Nat} (he : (lgE x0).natAbs < 256) : Mag 110 (double.read (flog x0)) := by
  obtain ⟨b1, b2⟩ := lgX_bd x0
  have hs := mag_fls b1 b2
  have hu := mag_mul hs hs (by decide) (by decide)
  have hq := mag_fqn hu 13 (by decide)
  have hsq := mag_mul hs hq (by decide) (by decide)
  have htwo : Mag 2 (double.read 4611686018427387904) := by rw [read_two]; exact .inr (by decide +kernel)
  have h2 := mag_mul htwo hsq (by decide) (by decide)
  have hE := mag_int (n := lgE x0) (k := 8) he (by decide)
  have hc : Mag 1 (double.read 4604418534313441775) := by
    have : double.read 4604418534313441775 = .number false 6243314768165359 (-53) := by decide +kernel
    rw [this]; exact .inr (by decide +kernel)
  have h3 := mag_mul hE hc (by decide) (by decide)
  have h4 := mag_add h2 (mag_mono h3 (by decide)) (by decide) (by decide)
  exact mag_mono h4 (by decide)
end Go
