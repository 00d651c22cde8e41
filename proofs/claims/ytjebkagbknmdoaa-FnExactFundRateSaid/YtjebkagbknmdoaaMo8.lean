/- Rounding keeps the order: what is written is not beyond a word that the exact number does not pass; sums, differences and products of words of no sign, held against words. -/
import Derived.Test.YtjebkagbknmdoaaFlo3
namespace Go
open Ieee
theorem cut_ge8 (neg : Bool) {n drop a : Nat} (h : a * 2 ^ drop ≤ n) : a ≤ Toward.even.cut neg n drop := by
  unfold Toward.cut
  dsimp only
  rw [Nat.one_shiftLeft]
  have hp : 0 < 2 ^ min drop (n.log2 + 2) := Nat.two_pow_pos _
  have h1 : a ≤ n / 2 ^ min drop (n.log2 + 2) := by
    rw [Nat.le_div_iff_mul_le hp]
    exact Nat.le_trans (Nat.mul_le_mul_left _ (Nat.pow_le_pow_right (by decide) (Nat.min_le_left _ _))) h
  omega
theorem cut_le8 (neg : Bool) {n drop a : Nat} (h : n ≤ a * 2 ^ drop) : Toward.even.cut neg n drop ≤ a := by
  rcases Nat.lt_or_eq_of_le h with h | h
  · exact cut_le neg n drop a h
  · by_cases h0 : n = 0
    · subst h0
      have ha : a = 0 := by
        rcases Nat.mul_eq_zero.1 h.symm with h | h
        · exact h
        · exact absurd h (Nat.ne_of_gt (Nat.two_pow_pos _))
      unfold Toward.cut
      simp
    · have hd : drop ≤ n.log2 + 2 := by
        have h1 : 2 ^ drop ≤ n := by
          rw [h]
          refine Nat.le_mul_of_pos_left _ ?_
          rcases Nat.eq_zero_or_pos a with ha | ha
          · subst ha
            rw [Nat.zero_mul] at h
            exact absurd h h0
          · exact ha
        have := (Nat.le_log2 h0).2 h1
        omega
      unfold Toward.cut
      dsimp only
      rw [Nat.one_shiftLeft, Nat.min_eq_left hd, h, Nat.mul_div_cancel _ (Nat.two_pow_pos _), Nat.mul_mod_left]
      have hp : 0 < 2 ^ drop := Nat.two_pow_pos _
      have e1 : decide (2 ^ drop < 2 * 0) = false := decide_eq_false (by omega)
      have e2 : (2 ^ drop == 2 * 0) = false := by
        rw [Nat.mul_zero]
        exact beq_false_of_ne (by omega)
      rw [e1, e2]
      simp
/-- the place of the last digit, above the least one -/
def upOf (f : Format) (n d : Nat) : Nat := n.log2 - d - f.fractionBits
theorem rung_form (f : Format) (neg : Bool) {n : Nat} (d : Nat) : rungOf f neg n (f.leastPlace - d) = upOf f n d * f.binade + Toward.even.cut neg n (upOf f n d + d) := by
  unfold rungOf upOf
  dsimp only
  have e1 : max (f.leastPlace - (d : Int) + (n.log2 : Int) - (f.fractionBits : Int)) f.leastPlace = f.leastPlace + ((n.log2 - d - f.fractionBits : Nat) : Int) := by omega
  rw [e1]
  have e2 : (f.leastPlace - (d : Int) - (f.leastPlace + ((n.log2 - d - f.fractionBits : Nat) : Int))).toNat = 0 := by omega
  have e3 : (f.leastPlace + ((n.log2 - d - f.fractionBits : Nat) : Int) - (f.leastPlace - (d : Int))).toNat = (n.log2 - d - f.fractionBits) + d := by omega
  have e4 : (f.leastPlace + ((n.log2 - d - f.fractionBits : Nat) : Int) - f.leastPlace).toNat = n.log2 - d - f.fractionBits := by omega
  rw [e2, e3, e4, Nat.shiftLeft_zero]
theorem binade_pow (f : Format) (k : Nat) : f.binade * 2 ^ k = 2 ^ (f.fractionBits + k) := by unfold Format.binade; rw [Nat.pow_add]
theorem rung_ge (f : Format) (neg : Bool) {n y d : Nat} (hn : n ≠ 0) (h : units f.binade y * 2 ^ d ≤ n) : y ≤ rungOf f neg n (f.leastPlace - d) := by
  have hB : 0 < f.binade := Nat.two_pow_pos _
  rw [rung_form]
  have hL : 2 ^ n.log2 ≤ n := Nat.log2_self_le hn
  unfold units at h
  by_cases hy : y < f.binade
  · rw [if_pos hy] at h
    by_cases ht : upOf f n d = 0
    · rw [ht, Nat.zero_add]
      have := cut_ge8 neg h
      omega
    · have : f.binade ≤ upOf f n d * f.binade := Nat.le_mul_of_pos_left _ (by omega)
      omega
  · rw [if_neg hy] at h
    have hq : 1 ≤ y / f.binade := (Nat.le_div_iff_mul_le hB).2 (by omega)
    have hd : f.binade * (y / f.binade) + y % f.binade = y := Nat.div_add_mod y f.binade
    have hr : y % f.binade < f.binade := Nat.mod_lt _ hB
    generalize y / f.binade = q at *
    generalize y % f.binade = r at *
    have h1 : (f.binade + r) * 2 ^ (q - 1 + d) ≤ n := by rw [Nat.pow_add, ← Nat.mul_assoc]; exact h
    have h2 : 2 ^ (f.fractionBits + (q - 1 + d)) ≤ n := by
      rw [← binade_pow]
      exact Nat.le_trans (Nat.mul_le_mul_right _ (by omega)) h1
    have h3 : f.fractionBits + (q - 1 + d) ≤ n.log2 := (Nat.le_log2 hn).2 h2
    have ht : q - 1 ≤ upOf f n d := by unfold upOf; omega
    rcases Nat.lt_or_eq_of_le ht with ht | ht
    · have h4 : upOf f n d + d + f.fractionBits = n.log2 := by unfold upOf at ht ⊢; omega
      have h5 : f.binade ≤ Toward.even.cut neg n (upOf f n d + d) := by
        refine cut_ge8 neg ?_
        rw [binade_pow, show f.fractionBits + (upOf f n d + d) = n.log2 by omega]
        exact hL
      have h6 : q * f.binade ≤ upOf f n d * f.binade := Nat.mul_le_mul_right _ (by omega)
      rw [Nat.mul_comm f.binade q] at hd
      omega
    · rw [← ht]
      have h5 := cut_ge8 neg h1
      have h6 : q * f.binade = (q - 1) * f.binade + f.binade := by
        rw [← Nat.succ_mul]; congr 1; omega
      rw [Nat.mul_comm f.binade q] at hd
      omega
theorem rung_le (f : Format) (neg : Bool) {n y d : Nat} (hn : n ≠ 0) (h : n ≤ units f.binade y * 2 ^ d) : rungOf f neg n (f.leastPlace - d) ≤ y := by
  have hB : 0 < f.binade := Nat.two_pow_pos _
  rw [rung_form]
  have hL : n < 2 ^ (n.log2 + 1) := Nat.lt_log2_self
  unfold units at h
  by_cases hy : y < f.binade
  · rw [if_pos hy] at h
    have h1 : n < 2 ^ (f.fractionBits + d) := by
      rw [← binade_pow]
      exact Nat.lt_of_le_of_lt h (Nat.mul_lt_mul_of_pos_right hy (Nat.two_pow_pos _))
    have h2 := (Nat.log2_lt hn).2 h1
    have ht : upOf f n d = 0 := by unfold upOf; omega
    rw [ht, Nat.zero_mul, Nat.zero_add, Nat.zero_add]
    exact cut_le8 neg h
  · rw [if_neg hy] at h
    have hq : 1 ≤ y / f.binade := (Nat.le_div_iff_mul_le hB).2 (by omega)
    have hd : f.binade * (y / f.binade) + y % f.binade = y := Nat.div_add_mod y f.binade
    have hr : y % f.binade < f.binade := Nat.mod_lt _ hB
    generalize y / f.binade = q at *
    generalize y % f.binade = r at *
    have h1 : n ≤ (f.binade + r) * 2 ^ (q - 1 + d) := by rw [Nat.pow_add, ← Nat.mul_assoc]; exact h
    have h2 : n < 2 ^ (f.fractionBits + (q + d)) := by
      refine Nat.lt_of_le_of_lt h1 ?_
      rw [← binade_pow, show q + d = (q - 1 + d) + 1 by omega, Nat.pow_succ, ← Nat.mul_assoc, Nat.mul_right_comm]
      exact Nat.mul_lt_mul_of_pos_right (by omega) (Nat.two_pow_pos _)
    have h3 := (Nat.log2_lt hn).2 h2
    have ht : upOf f n d ≤ q - 1 := by unfold upOf; omega
    have h6 : q * f.binade = (q - 1) * f.binade + f.binade := by
      rw [← Nat.succ_mul]; congr 1; omega
    rw [Nat.mul_comm f.binade q] at hd
    rcases Nat.lt_or_eq_of_le ht with ht | ht
    · have h5 : Toward.even.cut neg n (upOf f n d + d) ≤ 2 * f.binade := by
        refine cut_le8 neg ?_
        rw [Nat.mul_assoc, binade_pow, Nat.mul_comm, ← Nat.pow_succ]
        refine Nat.le_trans (Nat.le_of_lt hL) (Nat.pow_le_pow_right (by decide) ?_)
        unfold upOf; omega
      have h7 : (upOf f n d + 1) * f.binade ≤ (q - 1) * f.binade := Nat.mul_le_mul_right _ (by omega)
      rw [Nat.succ_mul] at h7
      omega
    · rw [ht]
      have h5 := cut_le8 neg h1
      omega
theorem near_ge (f : Format) {n y d : Nat} (hy : y ≤ f.infRung) (h : units f.binade y * 2 ^ d ≤ n) : y ≤ f.nearest false n (f.leastPlace - d) := by
  by_cases hn : n = 0
  · subst hn
    have hy0 : y = 0 := by
      rcases Nat.eq_zero_or_pos y with h0 | h0
      · exact h0
      · have h1 := units_lt (B := f.binade) (Nat.two_pow_pos _) h0
        have h2 := Nat.mul_pos (show 0 < units f.binade y by omega) (Nat.two_pow_pos d)
        omega
    omega
  · have h1 := rung_ge f false hn h
    have h2 := write_number f false n (f.leastPlace - d) hn
    have h3 : f.write (.number false n (f.leastPlace - d)) = f.nearest false n (f.leastPlace - d) := rfl
    rw [← h3, h2]
    show y ≤ min _ _
    omega
theorem near_le (f : Format) {n y d : Nat} (h : n ≤ units f.binade y * 2 ^ d) : f.nearest false n (f.leastPlace - d) ≤ y := by
  by_cases hn : n = 0
  · subst hn
    unfold Format.nearest
    rw [if_pos rfl]
    exact Nat.zero_le _
  · have h1 := rung_le f false hn h
    have h2 := write_number f false n (f.leastPlace - d) hn
    have h3 : f.write (.number false n (f.leastPlace - d)) = f.nearest false n (f.leastPlace - d) := rfl
    rw [← h3, h2]
    show min _ _ ≤ y
    omega
/-- the number of least units of a 32-bit word of no sign -/
def uv (x : Nat) : Nat := units 8388608 x
theorem s_binade : single.binade = 8388608 := by decide +kernel
theorem s_inf : single.infRung = 2139095040 := by decide +kernel
theorem s_least : single.leastPlace = -149 := by decide +kernel
theorem uv_lt {x y : Nat} (h : x < y) : uv x < uv y := units_lt (by decide) h
theorem uv_le {x y : Nat} (h : x ≤ y) : uv x ≤ uv y := by
  rcases Nat.lt_or_eq_of_le h with h | h
  · exact Nat.le_of_lt (uv_lt h)
  · rw [h]; exact Nat.le_refl _
theorem le_uv {x y : Nat} (h : uv x ≤ uv y) : x ≤ y := by
  rcases Nat.lt_or_ge y x with g | g
  · have := uv_lt g; omega
  · exact g
theorem uv_zero : uv 0 = 0 := by decide +kernel
theorem uv_one : uv 1065353216 = 2 ^ 149 := by decide +kernel
theorem read_uv {x : Nat} (hx : x < 2139095040) : ∃ m u : Nat, single.read x = .number false m (-149 + u) ∧ m * 2 ^ u = uv x := by
  obtain ⟨m, e, h1, h2, h3⟩ := read_pos single (x := x) (by rw [s_inf]; exact hx)
  rw [s_least] at h2 h3
  rw [s_binade] at h3
  refine ⟨m, (e + 149).toNat, ?_, ?_⟩
  · rw [h1]; congr 1; omega
  · rw [show (e + 149).toNat = (e - -149).toNat by omega]; exact h3
/-- the nearest word of a number of least units -/
def nw (n : Nat) : Nat := single.nearest false n (-149)
/-- .. of a number of squares of them -/
def nw2 (n : Nat) : Nat := single.nearest false n (-149 - (149 : Nat))
theorem nw_ge {n y : Nat} (hy : y ≤ 2139095040) (h : uv y ≤ n) : y ≤ nw n := by
  have := near_ge single (n := n) (y := y) (d := 0) (by rw [s_inf]; exact hy) (by rw [s_binade, Nat.pow_zero, Nat.mul_one]; exact h)
  rw [s_least] at this
  exact this
theorem nw_le {n y : Nat} (h : n ≤ uv y) : nw n ≤ y := by
  have := near_le single (n := n) (y := y) (d := 0) (by rw [s_binade, Nat.pow_zero, Nat.mul_one]; exact h)
  rw [s_least] at this
  exact this
theorem nw2_ge {n y : Nat} (hy : y ≤ 2139095040) (h : uv y * 2 ^ 149 ≤ n) : y ≤ nw2 n := by
  have := near_ge single (n := n) (y := y) (d := 149) (by rw [s_inf]; exact hy) (by rw [s_binade]; exact h)
  rw [s_least] at this
  exact this
theorem nw2_le {n y : Nat} (h : n ≤ uv y * 2 ^ 149) : nw2 n ≤ y := by
  have := near_le single (n := n) (y := y) (d := 149) (by rw [s_binade]; exact h)
  rw [s_least] at this
  exact this
theorem nw_uv {x : Nat} (hx : x ≤ 2139095040) : nw (uv x) = x := Nat.le_antisymm (nw_le (Nat.le_refl _)) (nw_ge hx (Nat.le_refl _))
theorem near_up (n u : Nat) (p : Int) : single.nearest false n (p + u) = single.nearest false (n * 2 ^ u) p := by
  rw [← nearest_scale single false n u (p + u)]
  congr 1; omega
theorem sum_pos (m u n v : Nat) : (Datum.number false m (-149 + u)).sum (.number false n (-149 + v)) = some (.number false (m * 2 ^ (u - min u v) + n * 2 ^ (v - min u v)) (-149 + (min u v : Nat))) := by
  unfold Datum.sum
  dsimp only
  have e0 : min (-149 + (u : Int)) (-149 + (v : Int)) = -149 + ((min u v : Nat) : Int) := by omega
  rw [e0]
  have e1 : (-149 + (u : Int) - (-149 + ((min u v : Nat) : Int))).toNat = u - min u v := by omega
  have e2 : (-149 + (v : Int) - (-149 + ((min u v : Nat) : Int))).toNat = v - min u v := by omega
  rw [e1, e2]
  unfold signed
  simp only [Bool.false_eq_true, if_false, Nat.shiftLeft_eq]
  have e3 : ((m * 2 ^ (u - min u v) : Nat) : Int) + ((n * 2 ^ (v - min u v) : Nat) : Int) = ((m * 2 ^ (u - min u v) + n * 2 ^ (v - min u v) : Nat) : Int) := by omega
  rw [e3]
  generalize m * 2 ^ (u - min u v) + n * 2 ^ (v - min u v) = T
  congr 2
  · have : decide ((T : Int) < 0) = false := decide_eq_false (by omega)
    rw [this]; simp
theorem fadd_nw {x y : Nat} (hx : x < 2139095040) (hy : y < 2139095040) : fop .add .f32 x y = nw (uv x + uv y) := by
  obtain ⟨m, u, h1, h2⟩ := read_uv hx
  obtain ⟨n, v, g1, g2⟩ := read_uv hy
  show (single.add x y).getD (qn .f32) = _
  unfold Format.add
  rw [h1, g1, sum_pos, Option.map_some, Option.getD_some]
  show single.nearest false _ _ = _
  rw [near_up, Nat.add_mul, Nat.mul_assoc, Nat.mul_assoc, ← Nat.pow_add, ← Nat.pow_add, show u - min u v + min u v = u by omega, show v - min u v + min u v = v by omega, h2, g2]
  rfl
theorem sub_pos (m u n v : Nat) (h : n * 2 ^ v ≤ m * 2 ^ u) : (Datum.number false m (-149 + u)).sum (.number true n (-149 + v)) = some (.number false (m * 2 ^ (u - min u v) - n * 2 ^ (v - min u v)) (-149 + (min u v : Nat))) := by
  unfold Datum.sum
  dsimp only
  have e0 : min (-149 + (u : Int)) (-149 + (v : Int)) = -149 + ((min u v : Nat) : Int) := by omega
  rw [e0]
  have e1 : (-149 + (u : Int) - (-149 + ((min u v : Nat) : Int))).toNat = u - min u v := by omega
  have e2 : (-149 + (v : Int) - (-149 + ((min u v : Nat) : Int))).toNat = v - min u v := by omega
  rw [e1, e2]
  have h' : n * 2 ^ (v - min u v) ≤ m * 2 ^ (u - min u v) := by
    refine Nat.le_of_mul_le_mul_right (c := 2 ^ min u v) ?_ (Nat.two_pow_pos _)
    rw [Nat.mul_assoc, Nat.mul_assoc, ← Nat.pow_add, ← Nat.pow_add, show u - min u v + min u v = u by omega, show v - min u v + min u v = v by omega]
    exact h
  unfold signed
  simp only [Bool.false_eq_true, if_false, if_true, Nat.shiftLeft_eq]
  generalize m * 2 ^ (u - min u v) = M at *
  generalize n * 2 ^ (v - min u v) = N at *
  have e3 : ((M : Nat) : Int) + -((N : Nat) : Int) = ((M - N : Nat) : Int) := by omega
  rw [e3]
  congr 2
  · have : decide (((M - N : Nat) : Int) < 0) = false := decide_eq_false (by omega)
    rw [this]; simp
theorem fsub_nw {x y : Nat} (hx : x < 2139095040) (hy : y ≤ x) : fop .sub .f32 x y = nw (uv x - uv y) := by
  obtain ⟨m, u, h1, h2⟩ := read_uv hx
  obtain ⟨n, v, g1, g2⟩ := read_uv (x := y) (by omega)
  show (single.sub x y).getD (qn .f32) = _
  unfold Format.sub
  rw [h1, g1]
  show (((Datum.number false m (-149 + u)).sum (.number true n (-149 + v))).map _).getD _ = _
  rw [sub_pos m u n v (by rw [h2, g2]; exact uv_le hy), Option.map_some, Option.getD_some]
  show single.nearest false _ _ = _
  rw [near_up, Nat.sub_mul, Nat.mul_assoc, Nat.mul_assoc, ← Nat.pow_add, ← Nat.pow_add, show u - min u v + min u v = u by omega, show v - min u v + min u v = v by omega, h2, g2]
  rfl
theorem fmul_nw {x y : Nat} (hx : x < 2139095040) (hy : y < 2139095040) : fop .mul .f32 x y = nw2 (uv x * uv y) := by
  obtain ⟨m, u, h1, h2⟩ := read_uv hx
  obtain ⟨n, v, g1, g2⟩ := read_uv hy
  show (single.mul x y).getD (qn .f32) = _
  unfold Format.mul
  rw [h1, g1]
  show single.nearest (false ^^ false) (m * n) (-149 + u + (-149 + v)) = _
  rw [show (-149 : Int) + u + (-149 + v) = (-149 - (149 : Nat)) + ((u + v : Nat) : Int) by omega, Bool.xor_false, near_up, Nat.pow_add, ← h2, ← g2]
  unfold nw2
  congr 1
  rw [Nat.mul_mul_mul_comm]
/-! what follows for words between +0 and 1 -/
theorem add_le {x y z : Nat} (hx : x < 2139095040) (hy : y < 2139095040) (h : uv x + uv y ≤ uv z) : fop .add .f32 x y ≤ z := by rw [fadd_nw hx hy]; exact nw_le h
theorem add_ge {x y z : Nat} (hx : x < 2139095040) (hy : y < 2139095040) (hz : z ≤ 2139095040) (h : uv z ≤ uv x + uv y) : z ≤ fop .add .f32 x y := by rw [fadd_nw hx hy]; exact nw_ge hz h
theorem add_zero32 {x : Nat} (hx : x < 2139095040) : fop .add .f32 x 0 = x := by
  rw [fadd_nw hx (by decide), uv_zero, Nat.add_zero, nw_uv (by omega)]
theorem mul_one_le {x y : Nat} (hx : x < 2139095040) (hy : y ≤ 1065353216) : fop .mul .f32 x y ≤ x := by
  rw [fmul_nw hx (by omega)]
  refine nw2_le (Nat.mul_le_mul_left _ ?_)
  rw [← uv_one]; exact uv_le hy
theorem mul_comm32 {x y : Nat} (hx : x < 2139095040) (hy : y < 2139095040) : fop .mul .f32 x y = fop .mul .f32 y x := by
  rw [fmul_nw hx hy, fmul_nw hy hx, Nat.mul_comm]
theorem mul_zero32 {x : Nat} (hx : x < 2139095040) : fop .mul .f32 x 0 = 0 := by
  rw [fmul_nw hx (by decide), uv_zero, Nat.mul_zero]
  exact Nat.le_zero.1 (nw2_le (Nat.zero_le _))
theorem sub_le {x y : Nat} (hx : x < 2139095040) (hy : y ≤ x) : fop .sub .f32 x y ≤ x := by
  rw [fsub_nw hx hy]; exact nw_le (Nat.sub_le _ _)
end Go
