/- Bounds of 32-bit numbers: quotients, products, sums; shares; a small number as an integer. -/
import Derived.Test.YtjebkagbknmdoaaMq8
import Derived.Test.YtjebkagbknmdoaaTen
namespace Go
open Ieee
theorem int_small32 {x : Nat} {k : Nat} (h : Mle k (single.read x)) (hk : k ≤ 60) : ∃ n, floatToIntVal .f32 x .i64 = some n := by
  obtain ⟨s, m, e, hd⟩ := h.number
  have hc := cut_small .zero (by rw [hd] at h; exact h) s
  refine ⟨signed s (Toward.zero.cut s (m <<< e.toNat) (-e).toNat) 0, ?_⟩
  unfold floatToIntVal
  have h1 : (FloatKind.f32.decode x).toInt .zero = some (signed s (Toward.zero.cut s (m <<< e.toNat) (-e).toNat) 0) := by
    show (single.read x).toInt .zero = _
    rw [hd]; rfl
  rw [h1]
  dsimp only
  have h2 := signed_natAbs s (Toward.zero.cut s (m <<< e.toNat) (-e).toNat) 0
  have h3 : 2 ^ k ≤ 2 ^ 60 := Nat.pow_le_pow_right (by decide) hk
  have h4 : (2 : Nat) ^ 60 = 1152921504606846976 := by decide +kernel
  rw [Nat.pow_zero, Nat.mul_one] at h2
  rw [if_pos]
  have e1 : IntKind.i64.min = -9223372036854775808 := by decide +kernel
  have e2 : IntKind.i64.max = 9223372036854775807 := by decide +kernel
  rw [e1, e2]
  omega
theorem big_one {x : Nat} (h1 : 1065353216 ≤ x) (h2 : x < 2139095040) : Big 0 (single.read x) := by
  obtain ⟨m, u, g1, g2⟩ := read_uv h2
  have h3 := uv_le h1
  rw [uv_one, ← g2] at h3
  rw [g1]
  have hm : m ≠ 0 := by
    intro hm
    subst hm
    have := Nat.two_pow_pos 149
    omega
  refine ⟨hm, ?_⟩
  have h4 : m < 2 ^ (m.log2 + 1) := Nat.lt_log2_self
  have h5 : m * 2 ^ u < 2 ^ (m.log2 + 1 + u) := by
    rw [Nat.pow_add]; exact Nat.mul_lt_mul_of_pos_right h4 (Nat.two_pow_pos _)
  have h6 : (2 : Nat) ^ 149 < 2 ^ (m.log2 + 1 + u) := Nat.lt_of_le_of_lt h3 h5
  have h7 := (Nat.pow_lt_pow_iff_right (by decide : 1 < 2)).1 h6
  omega
theorem mag_quo32 {x y : Nat} {k : Int} (hx : Mag k (single.read x)) (hy : Big 0 (single.read y)) (h1 : -125 ≤ k) (h2 : k ≤ 127) : Mag (k + 1) (single.read (fop .quo .f32 x y)) := by
  obtain ⟨d, hd, hm⟩ := mag_quotient (single.fractionBits + 2) hx hy
  have : fop .quo .f32 x y = single.write d := by
    show (single.div x y).getD _ = _
    unfold Format.div
    rw [hd]; rfl
  rw [this]
  exact mag_write32 (by rw [Int.sub_zero] at hm; exact hm) h1 h2
theorem sub_ge {x y z : Nat} (hx : x < 2139095040) (hy : y ≤ x) (hz : z ≤ 2139095040) (h : uv z + uv y ≤ uv x) : z ≤ fop .sub .f32 x y := by
  rw [fsub_nw hx hy]; exact nw_ge hz (by omega)
theorem big_low {x : Nat} {k : Nat} (y : Nat) (h1 : y ≤ x) (h2 : x < 2139095040) (hy : uv y = 2 ^ k) : Big ((k : Int) - 149) (single.read x) := by
  obtain ⟨m, u, g1, g2⟩ := read_uv h2
  have h3 := uv_le h1
  rw [hy, ← g2] at h3
  rw [g1]
  have hm : m ≠ 0 := by
    intro hm
    subst hm
    have := Nat.two_pow_pos k
    omega
  refine ⟨hm, ?_⟩
  have h4 : m < 2 ^ (m.log2 + 1) := Nat.lt_log2_self
  have h5 : m * 2 ^ u < 2 ^ (m.log2 + 1 + u) := by
    rw [Nat.pow_add]; exact Nat.mul_lt_mul_of_pos_right h4 (Nat.two_pow_pos _)
  have h6 : (2 : Nat) ^ k < 2 ^ (m.log2 + 1 + u) := Nat.lt_of_le_of_lt h3 h5
  have h7 := (Nat.pow_lt_pow_iff_right (by decide : 1 < 2)).1 h6
  omega
theorem mag_low {x : Nat} {k : Nat} (y : Nat) (h1 : x ≤ y) (h2 : y < 2139095040) (hy : uv y = 2 ^ k) : Mag ((k : Int) - 148) (single.read x) := by
  obtain ⟨m, u, g1, g2⟩ := read_uv (x := x) (by omega)
  have h3 := uv_le h1
  rw [hy, ← g2] at h3
  rw [g1]
  by_cases hm : m = 0
  · exact .inl hm
  · refine .inr ?_
    have h4 : 2 ^ m.log2 ≤ m := Nat.log2_self_le hm
    have h5 : 2 ^ (m.log2 + u) ≤ m * 2 ^ u := by
      rw [Nat.pow_add]; exact Nat.mul_le_mul_right _ h4
    have h7 := (Nat.pow_le_pow_iff_right (by decide : 1 < 2)).1 (Nat.le_trans h5 h3)
    omega
theorem mag_quo32' {x y : Nat} {j k : Int} (hx : Mag j (single.read x)) (hy : Big k (single.read y)) (h1 : -125 ≤ j - k) (h2 : j - k ≤ 127) : Mag (j - k + 1) (single.read (fop .quo .f32 x y)) := by
  obtain ⟨d, hd, hm⟩ := mag_quotient (single.fractionBits + 2) hx hy
  have : fop .quo .f32 x y = single.write d := by
    show (single.div x y).getD _ = _
    unfold Format.div
    rw [hd]; rfl
  rw [this]
  exact mag_write32 hm h1 h2
theorem mag_mul32 {x y : Nat} {j k : Int} (hx : Mag j (single.read x)) (hy : Mag k (single.read y)) (h1 : -125 ≤ j + k) (h2 : j + k ≤ 127) : Mag (j + k + 1) (single.read (fop .mul .f32 x y)) := by
  obtain ⟨d, hd, hm⟩ := mag_product hx hy
  have : fop .mul .f32 x y = single.write d := by
    show (single.mul x y).getD _ = _
    unfold Format.mul
    rw [hd]; rfl
  rw [this]
  exact mag_write32 hm h1 h2
theorem mag_add32 {x y : Nat} {k : Int} (hx : Mag k (single.read x)) (hy : Mag k (single.read y)) (h1 : -126 ≤ k) (h2 : k ≤ 126) : Mag (k + 2) (single.read (fop .add .f32 x y)) := by
  obtain ⟨d, hd, hm⟩ := mag_sum hx hy
  have : fop .add .f32 x y = single.write d := by
    show (single.add x y).getD _ = _
    unfold Format.add
    rw [hd]; rfl
  rw [this]
  have := mag_write32 hm (by omega) (by omega)
  exact mag_mono this (by omega)
theorem mag_one : Mag 1 (single.read 1065353216) := by
  have h : single.read 1065353216 = .number false 8388608 (-23) := by decide +kernel
  rw [h]
  exact .inr (by decide +kernel)
theorem mag_share {x : Nat} (h : Sh x) : Mag 1 (single.read x) := by
  rw [read_mod]
  rcases h with h | h
  · exact mag_low (k := 149) 1065353216 h (by decide) uv_one
  · rw [h]
    have : single.read 2147483648 = .number true 0 (-149) := by decide +kernel
    rw [this]
    exact .inl rfl
/-- what is left of 1 when a share is less -/
theorem left_big {x : Nat} (h : Sh x) (hl : single.order x 1065353216 = some .lt) : Big (-24) (single.read (fop .sub .f32 1065353216 x)) := by
  rw [order_mod] at hl
  rw [fop_mod]
  rcases h with h | h
  · generalize x % 4294967296 = y at *
    have h1 : y < 1065353216 := by
      rw [order_pos single (by rw [s_inf]; omega) (by rw [s_inf]; decide)] at hl
      injection hl with hl
      exact Nat.compare_eq_lt.1 hl
    have e1 : uv 864026624 = 2 ^ 125 := by decide +kernel
    have e2 : uv 864026624 + uv 1065353215 = uv 1065353216 := by decide +kernel
    have h2 := uv_le (show y ≤ 1065353215 by omega)
    have h3 : 864026624 ≤ fop .sub .f32 1065353216 y := sub_ge (by decide) (by omega) (by decide) (by omega)
    have h4 : fop .sub .f32 1065353216 y ≤ 1065353216 := sub_le (by decide) (by omega)
    exact big_low (k := 125) 864026624 h3 (by omega) e1
  · rw [h]
    have : fop .sub .f32 1065353216 2147483648 = 1065353216 := by decide +kernel
    rw [this]
    have := big_one (x := 1065353216) (Nat.le_refl _) (by decide)
    have h : single.read 1065353216 = .number false 8388608 (-23) := by decide +kernel
    rw [h]
    exact ⟨by decide, by decide +kernel⟩
theorem mag_fin {x : Nat} {k : Int} (h : Mag k (single.read x)) : ffin .f32 x = true := by
  unfold ffin
  show (match single.read x with | .number .. => true | _ => false) = true
  revert h
  cases single.read x with
  | number s m e => intro _; rfl
  | infinity s => exact fun h => h.elim
  | nan s t => exact fun h => h.elim
theorem ffin_low {x : Nat} (h : x < 2139095040) : ffin .f32 x = true := by
  obtain ⟨m, u, h1, _⟩ := read_uv h
  unfold ffin
  show (match single.read x with | .number .. => true | _ => false) = true
  rw [h1]
end Go
