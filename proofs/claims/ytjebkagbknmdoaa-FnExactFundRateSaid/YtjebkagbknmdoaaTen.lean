/- Tenths of decibels: the floor of a small number, as an integer. -/
import Derived.Test.YtjebkagbknmdoaaMle
import Derived.Test.YtjebkagbknmdoaaCls2
import Derived.Laws.FloatArith
namespace Go
open Ieee

theorem mle_fop {op : BinOp} {x y : Nat} {d : Datum} {k : Int} (h : (match op with | .add => (double.read x).sum (double.read y) | .sub => (double.read x).sum (double.read y).opposite | .mul => (double.read x).product (double.read y) | .quo => (double.read x).quotient 54 (double.read y) | _ => none) = some d) (hm : Mle k d) (h1 : -1021 ≤ k) (h2 : k ≤ 1022) :
    Mle k (double.read (fop op .f64 x y)) := by
  have : fop op .f64 x y = double.write d := by
    cases op <;> simp only at h <;> first | (cases h; done) | skip
    all_goals
      unfold fop floatBits
      dsimp only
    · show ((double.add x y)).getD _ = _
      unfold Format.add; rw [h]; rfl
    · show ((double.sub x y)).getD _ = _
      unfold Format.sub; rw [h]; rfl
    · show ((double.mul x y)).getD _ = _
      unfold Format.mul; rw [h]; rfl
    · show ((double.div x y)).getD _ = _
      unfold Format.div
      show (Option.map double.write ((double.read x).quotient 54 (double.read y))).getD _ = _
      rw [h]; rfl
  rw [this]
  exact mle_write64 hm h1 h2
theorem mle_add {x y : Nat} {k : Int} (hx : Mle k (double.read x)) (hy : Mle k (double.read y)) (h1 : -1021 ≤ k + 1) (h2 : k + 1 ≤ 1022) : Mle (k + 1) (double.read (fop .add .f64 x y)) := by
  obtain ⟨d, h, hm⟩ := mle_sum hx hy
  exact mle_fop (op := .add) h hm h1 h2
theorem mle_mul {x y : Nat} {j k : Int} (hx : Mle j (double.read x)) (hy : Mle k (double.read y)) (h1 : -1021 ≤ j + k) (h2 : j + k ≤ 1022) : Mle (j + k) (double.read (fop .mul .f64 x y)) := by
  obtain ⟨d, h, hm⟩ := mle_product hx hy
  exact mle_fop (op := .mul) h hm h1 h2
theorem mle_fls {x : Nat} (h1 : 4604930618986332160 ≤ x) (h2 : x < 4609434218613702656) : Mle 0 (double.read (fls x)) := by
  obtain ⟨d, h, hm⟩ := mag_quotient 54 (mag_less h1 h2) (big_more h1 h2)
  exact mle_fop (op := .quo) h (.inl hm) (by decide) (by decide)
theorem mle_int {n : Int} {k : Nat} (h : n.natAbs < 2 ^ k) (hk : k ≤ 1000) : Mle k (double.read (floatOfInt .f64 n)) := by
  refine mle_write64 (d := .number (n < 0) n.natAbs 0) (k := (k : Int)) (.inl ?_) (by omega) (by omega)
  by_cases h0 : n.natAbs = 0
  · exact .inl h0
  · exact .inr (by have := (Nat.log2_lt h0).2 h; omega)
theorem mle_inv (i : Nat) (hi : i < 13) : Mle 0 (double.read (fop .quo .f64 4607182418800017408 (floatOfInt .f64 (25 - 2 * (i : Int))))) := by
  have h : ∀ i : Fin 13, (match double.read (fop .quo .f64 4607182418800017408 (floatOfInt .f64 (25 - 2 * ((i : Nat) : Int)))) with | .number _ m e => decide (m = 0 ∨ e + m.log2 < 0) || decide (m = 4503599627370496 ∧ e = -52) | _ => false) = true := by decide +kernel
  have h2 := h ⟨i, hi⟩
  dsimp only at h2
  cases hd : double.read (fop .quo .f64 4607182418800017408 (floatOfInt .f64 (25 - 2 * (i : Int)))) with
  | number s m e =>
    rw [hd] at h2
    dsimp only at h2
    rw [Bool.or_eq_true] at h2
    rcases h2 with h2 | h2
    · exact .inl (of_decide_eq_true (p := m = 0 ∨ e + (m.log2 : Int) < 0) h2)
    · have h3 := of_decide_eq_true h2
      exact .inr ⟨s, 52, e, by rw [h3.1], by have := h3.2; omega⟩
  | infinity s => rw [hd] at h2; cases h2
  | nan s t => rw [hd] at h2; cases h2
theorem mle_fqn {u : Nat} (hu : Mle 0 (double.read u)) : ∀ i : Nat, i ≤ 13 → Mle i (double.read (fqn u i))
  | 0, _ => by
    show Mle _ (double.read 0)
    rw [read_zero64]; exact .inl (.inl rfl)
  | i + 1, hi => by
    have h1 := mle_fqn hu i (by omega)
    have h2 := mle_mul hu h1 (by omega) (by omega)
    have h3 := mle_inv i (by omega)
    rw [Int.zero_add] at h2
    exact mle_add (h3.mono (by omega)) h2 (by omega) (by omega)
theorem mle_flog {x0 : Nat} (he : (lgE x0).natAbs < 256) : Mle 15 (double.read (flog x0)) := by
  obtain ⟨b1, b2⟩ := lgX_bd x0
  have hs := mle_fls b1 b2
  have hu := mle_mul hs hs (by decide) (by decide)
  have hq := mle_fqn hu 13 (by decide)
  have hsq := mle_mul hs hq (by decide) (by decide)
  have htwo : Mle 1 (double.read 4611686018427387904) := by rw [read_two]; exact .inr ⟨false, 52, -51, by decide +kernel, by decide⟩
  have h2 := mle_mul htwo hsq (by decide) (by decide)
  have hE := mle_int (n := lgE x0) (k := 8) he (by decide)
  have hc : Mle 0 (double.read 4604418534313441775) := by
    have : double.read 4604418534313441775 = .number false 6243314768165359 (-53) := by decide +kernel
    rw [this]; exact .inl (.inr (by decide +kernel))
  have h3 := mle_mul hE hc (by decide) (by decide)
  exact mle_add h2 (h3.mono (by decide)) (by decide) (by decide)

def ften (x : Nat) : Nat := fop .add .f64 (fop .mul .f64 (flog (widen x)) 4631308968768463603) 4602678819172646912
theorem mle_ften {x : Nat} (h0 : 0 < x) (hx : x < 2139095040) : Mle 22 (double.read (ften x)) := by
  have h1 := mle_flog (lgE_widen h0 hx)
  have hc : Mle 6 (double.read 4631308968768463603) := by
    have : double.read 4631308968768463603 = .number false 6112151458964211 (-47) := by decide +kernel
    rw [this]; exact .inl (.inr (by decide +kernel))
  have hh : Mle 0 (double.read 4602678819172646912) := by
    have : double.read 4602678819172646912 = .number false 4503599627370496 (-53) := by decide +kernel
    rw [this]; exact .inl (.inr (by decide +kernel))
  exact mle_add (mle_mul h1 hc (by decide) (by decide)) (hh.mono (by decide)) (by decide) (by decide)
theorem mle_nan {x : Nat} {k : Int} (h : Mle k (double.read x)) : fnan .f64 x = false := by
  obtain ⟨s, m, e, hd⟩ := h.number
  unfold fnan
  show (double.read x).isNaN = false
  rw [hd]; rfl

theorem cut_any (way : Toward) (neg : Bool) (n drop : Nat) : way.cut neg n drop ≤ n / 2 ^ drop + 1 := by
  unfold Toward.cut
  dsimp only
  rw [Nat.one_shiftLeft]
  have hb : ∀ b : Bool, b.toNat ≤ 1 := fun b => by cases b <;> decide
  by_cases hd : drop ≤ n.log2 + 2
  · rw [Nat.min_eq_left hd]
    exact Nat.add_le_add_left (hb _) _
  · rw [Nat.min_eq_right (by omega)]
    have h0 : n < 2 ^ (n.log2 + 1) := Nat.lt_log2_self
    have h1 : 2 ^ (n.log2 + 1) ≤ 2 ^ (n.log2 + 2) := Nat.pow_le_pow_right (by decide) (by omega)
    rw [Nat.div_eq_of_lt (show n < 2 ^ (n.log2 + 2) by omega), Nat.zero_add]
    exact Nat.le_trans (hb _) (Nat.le_add_left _ _)
theorem cut_small (way : Toward) {s : Bool} {m : Nat} {e : Int} {k : Nat} (h : Mle k (.number s m e)) (neg : Bool) : way.cut neg (m <<< e.toNat) (-e).toNat ≤ 2 ^ k + 1 := by
  refine Nat.le_trans (cut_any _ _ _ _) (Nat.add_le_add_right ?_ 1)
  rw [Nat.shiftLeft_eq]
  by_cases he : 0 ≤ e
  · have h1 := h.units (b := 0) he
    have e1 : (-e).toNat = 0 := by omega
    rw [e1, Nat.pow_zero, Nat.div_one]
    have e2 : (e - 0).toNat = e.toNat := by omega
    have e3 : ((k : Int) - 0).toNat = k := by omega
    rw [e2, e3] at h1
    exact h1
  · have h1 := h.units (b := e) (Int.le_refl _)
    have e1 : e.toNat = 0 := by omega
    have e2 : (e - e).toNat = 0 := by omega
    have e3 : ((k : Int) - e).toNat = k + (-e).toNat := by omega
    rw [e2, e3, Nat.pow_zero, Nat.mul_one, Nat.pow_add] at h1
    rw [e1, Nat.pow_zero, Nat.mul_one]
    exact Nat.div_le_of_le_mul (by rw [Nat.mul_comm]; exact h1)

/-- the floor of a word -/
def ffloor (x : Nat) : Nat := double.write ((double.read x).integral .down)
theorem mle_floor {x : Nat} {k : Nat} (h : Mle k (double.read x)) (hk : k ≤ 1000) : Mle (k + 1) (double.read (ffloor x)) := by
  obtain ⟨s, m, e, hd⟩ := h.number
  unfold ffloor
  rw [hd] at h ⊢
  refine mle_write64 ?_ (by omega) (by omega)
  refine Mle.of_units (b := 0) ?_ (by omega)
  refine Nat.le_trans (cut_small _ h _) ?_
  have : ((k : Int) + 1 - 0).toNat = k + 1 := by omega
  rw [this, Nat.pow_succ]
  have := Nat.two_pow_pos k
  omega
/-- a small word as an int64 -/
theorem int_small {x : Nat} {k : Nat} (h : Mle k (double.read x)) (hk : k ≤ 60) : ∃ n, floatToIntVal .f64 x .i64 = some n ∧ (double.read x).toInt .zero = some n ∧ n.natAbs ≤ 2 ^ k + 1 := by
  obtain ⟨s, m, e, hd⟩ := h.number
  have hc := cut_small .zero (by rw [hd] at h; exact h) s
  refine ⟨signed s (Toward.zero.cut s (m <<< e.toNat) (-e).toNat) 0, ?_, ?_, ?_⟩
  · unfold floatToIntVal
    have h1 : (FloatKind.f64.decode x).toInt .zero = some (signed s (Toward.zero.cut s (m <<< e.toNat) (-e).toNat) 0) := by
      show (double.read x).toInt .zero = _
      rw [hd]; rfl
    rw [h1]
    dsimp only
    have h2 := signed_natAbs s (Toward.zero.cut s (m <<< e.toNat) (-e).toNat) 0
    have h3 : 2 ^ k ≤ 2 ^ 60 := Nat.pow_le_pow_right (by decide) hk
    have h4 : (2 : Nat) ^ 60 = 1152921504606846976 := by decide +kernel
    rw [Nat.pow_zero, Nat.mul_one] at h2
    rw [if_pos]
    have e1 : IntKind.i64.min = -9223372036854775808 := by decide +kernel
    have e2 : IntKind.i64.max = 9223372036854775807 := by decide +kernel
    rw [e1, e2]
    omega
  · rw [hd]; rfl
  · have h2 := signed_natAbs s (Toward.zero.cut s (m <<< e.toNat) (-e).toNat) 0
    rw [Nat.pow_zero, Nat.mul_one] at h2
    rw [h2]; exact hc
/-- the tenths -/
def tenths (x : Nat) : Int := ((double.read (ffloor (ften x))).toInt .zero).getD 0
theorem tenths_eq {x : Nat} (h0 : 0 < x) (hx : x < 2139095040) : floatToIntVal .f64 (ffloor (ften x)) .i64 = some (tenths x) ∧ (tenths x).natAbs ≤ 16777216 := by
  obtain ⟨n, h1, h2, h3⟩ := int_small (k := 23) (mle_floor (k := 22) (mle_ften h0 hx) (by decide)) (by decide)
  have : tenths x = n := by unfold tenths; rw [h2]; rfl
  rw [this]
  exact ⟨h1, Nat.le_trans h3 (by decide)⟩
end Go
