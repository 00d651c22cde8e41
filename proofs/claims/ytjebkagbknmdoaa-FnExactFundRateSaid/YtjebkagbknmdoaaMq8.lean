/- Words between 0 and 1: quotients, what is left of 1, what is above it; sums of a hundred of them. -/
import Derived.Test.YtjebkagbknmdoaaMo8
namespace Go
open Ieee
theorem quo_uv {m u n v : Nat} (hn : n ≠ 0) (h : m * 2 ^ u ≤ n * 2 ^ v) (more : Nat) (hmore : more = 25 + n.log2 - m.log2) : (2 * ((m <<< more) / n) + ((m <<< more) % n != 0).toNat) * 2 ^ u ≤ 2 ^ (v + more + 1) := by
  rw [Nat.shiftLeft_eq]
  have hp : 0 < n := by omega
  by_cases hm : m = 0
  · subst hm
    simp
  have h1 : (m * 2 ^ more) * 2 ^ u ≤ n * 2 ^ (v + more) := by
    rw [Nat.mul_right_comm, Nat.pow_add, ← Nat.mul_assoc]
    exact Nat.mul_le_mul_right _ h
  by_cases hu : u ≤ v + more
  · obtain ⟨E, hE⟩ : ∃ E, v + more = E + u := ⟨v + more - u, by omega⟩
    rw [hE, Nat.pow_add, ← Nat.mul_assoc] at h1
    have h2 := Nat.le_of_mul_le_mul_right h1 (Nat.two_pow_pos u)
    generalize m * 2 ^ more = a at *
    rw [hE, show E + u + 1 = (E + 1) + u by omega, Nat.pow_add 2 (E + 1) u]
    refine Nat.mul_le_mul_right _ ?_
    rw [Nat.pow_succ]
    rcases Nat.lt_or_eq_of_le h2 with h3 | h3
    · have h4 : a / n < 2 ^ E := (Nat.div_lt_iff_lt_mul hp).2 (by rw [Nat.mul_comm]; exact h3)
      have : (a % n != 0).toNat ≤ 1 := by cases (a % n != 0) <;> decide
      omega
    · rw [h3, Nat.mul_div_cancel_left _ hp, Nat.mul_mod_right]
      simp
      omega
  · exfalso
    have h2 : n * 2 ^ (v + more) ≤ n * 2 ^ u := Nat.mul_le_mul_left _ (Nat.pow_le_pow_right (by decide) (by omega))
    have h3 := Nat.le_of_mul_le_mul_right (Nat.le_trans h1 h2) (Nat.two_pow_pos u)
    have h4 : 2 ^ m.log2 ≤ m := Nat.log2_self_le hm
    have h5 : n < 2 ^ (n.log2 + 1) := Nat.lt_log2_self
    have h6 : 2 ^ m.log2 * 2 ^ more ≤ m * 2 ^ more := Nat.mul_le_mul_right _ h4
    rw [← Nat.pow_add] at h6
    have h7 : 2 ^ (n.log2 + 1) ≤ 2 ^ (m.log2 + more) := Nat.pow_le_pow_right (by decide) (by omega)
    omega
theorem fquo_le_one {x y : Nat} (hy : y < 2139095040) (h0 : 0 < y) (h : x ≤ y) : fop .quo .f32 x y ≤ 1065353216 := by
  obtain ⟨m, u, h1, h2⟩ := read_uv (x := x) (by omega)
  obtain ⟨n, v, g1, g2⟩ := read_uv hy
  have hn : n ≠ 0 := by
    intro hn
    subst hn
    have := uv_lt h0
    omega
  show (single.div x y).getD (qn .f32) ≤ _
  unfold Format.div
  rw [h1, g1]
  unfold Datum.quotient
  dsimp only
  rw [if_neg hn, Option.map_some, Option.getD_some]
  show single.nearest (false ^^ false) _ _ ≤ _
  rw [show single.fractionBits + 2 = 25 from rfl]
  obtain ⟨more, hmore⟩ : ∃ more, more = 25 + n.log2 - m.log2 := ⟨_, rfl⟩
  rw [← hmore, Bool.xor_false]
  have hq := quo_uv hn (show m * 2 ^ u ≤ n * 2 ^ v by rw [h2, g2]; exact uv_le h) more hmore
  generalize 2 * ((m <<< more) / n) + ((m <<< more) % n != 0).toNat = Q at *
  rw [show (-149 : Int) + u - (-149 + v) - more - 1 = (-149 - ((v + more + 1 : Nat) : Int)) + ((u + 149 : Nat) : Int) by omega, near_up]
  have := near_le single (n := Q * 2 ^ (u + 149)) (y := 1065353216) (d := v + more + 1) (by
    rw [s_binade, show units 8388608 1065353216 = uv 1065353216 from rfl, uv_one, Nat.pow_add, ← Nat.mul_assoc, Nat.mul_comm (2 ^ 149)]
    exact Nat.mul_le_mul_right _ hq)
  rw [s_least] at this
  exact this
theorem one_le_two : uv 1065353216 + uv 1065353216 = uv 1073741824 := by decide +kernel
/-- 32 bits of a word are all that is read -/
theorem read_mod (x : Nat) : single.read x = single.read (x % 4294967296) := by
  have h1 : single.signWeight = 2147483648 := by decide +kernel
  unfold Format.read
  rw [h1]
  dsimp only
  rw [show x % 4294967296 / 2147483648 % 2 = x / 2147483648 % 2 by omega, show x % 4294967296 % 2147483648 = x % 2147483648 by omega]
theorem fop_mod (op : BinOp) (x y : Nat) : fop op .f32 x y = fop op .f32 x (y % 4294967296) := by
  have h := read_mod y
  have hf : FloatKind.f32.format = single := rfl
  cases op <;> first
    | rfl
    | (show (single.add x y).getD _ = (single.add x _).getD _; unfold Format.add; rw [← h])
    | (show (single.sub x y).getD _ = (single.sub x _).getD _; unfold Format.sub; rw [← h])
    | (show (single.mul x y).getD _ = (single.mul x _).getD _; unfold Format.mul; rw [← h])
    | (show (single.div x y).getD _ = (single.div x _).getD _; unfold Format.div; rw [← h])
/-- a share: between +0 and 1, or -0 -/
def Sh (x : Nat) : Prop := x % 4294967296 ≤ 1065353216 ∨ x % 4294967296 = 2147483648
theorem left_one {x : Nat} (h : Sh x) : fop .sub .f32 1065353216 x ≤ 1065353216 := by
  rw [fop_mod]
  rcases h with h | h
  · exact sub_le (by decide) h
  · rw [h]; decide +kernel
theorem above_one {x : Nat} (h : Sh x) : 1065353216 ≤ fop .add .f32 1065353216 x ∧ fop .add .f32 1065353216 x ≤ 1073741824 := by
  rw [fop_mod]
  rcases h with h | h
  · exact ⟨add_ge (by decide) (by omega) (by decide) (Nat.le_add_right _ _), add_le (by decide) (by omega) (by rw [← one_le_two]; exact Nat.add_le_add_left (uv_le h) _)⟩
  · rw [h]; constructor <;> decide +kernel
theorem factor_le {x : Nat} (h : Sh x) : fop .quo .f32 1065353216 (fop .add .f32 1065353216 x) ≤ 1065353216 := by
  obtain ⟨h1, h2⟩ := above_one h
  exact fquo_le_one (by omega) (by omega) h1
theorem mul_le_one {x y : Nat} (hx : x ≤ 1065353216) (hy : y ≤ 1065353216) : fop .mul .f32 x y ≤ 1065353216 := Nat.le_trans (mul_one_le (by omega) hy) hx
/-- whole numbers as words -/
def fW (n : Nat) : Nat := floatOfInt .f32 n
theorem fW_uv : ∀ n, n ≤ 256 → uv (fW n) = n * 2 ^ 149 ∧ fW n < 2139095040 := by
  have h : ∀ n, n < 257 → uv (fW n) = n * 2 ^ 149 ∧ fW n < 2139095040 := by decide +kernel
  intro n hn
  exact h n (by omega)
theorem order_mod (x y : Nat) : single.order x y = single.order (x % 4294967296) y := by unfold Format.order; rw [← read_mod]
theorem share_word {x : Nat} (h1 : single.order x 0 = some .gt ∨ single.order x 0 = some .eq) (h2 : single.order x 1065353216 = some .lt ∨ single.order x 1065353216 = some .eq) : Sh x := by
  rw [order_mod] at h1 h2
  unfold Sh
  have hb : x % 4294967296 < 4294967296 := Nat.mod_lt _ (by decide)
  generalize x % 4294967296 = y at *
  clear x
  have hsw : single.signWeight = 2147483648 := by decide +kernel
  by_cases c1 : y < 2147483648
  · by_cases c2 : y < 2139095040
    · rw [order_pos single (by rw [s_inf]; exact c2) (by rw [s_inf]; decide)] at h2
      rcases h2 with h2 | h2
      · injection h2 with h2
        exact .inl (Nat.le_of_lt (Nat.compare_eq_lt.1 h2))
      · injection h2 with h2
        exact .inl (Nat.le_of_eq (Nat.compare_eq_eq.1 h2))
    · exfalso
      by_cases c3 : y = 2139095040
      · subst c3
        have : single.order 2139095040 1065353216 = some .gt := by decide +kernel
        rw [this] at h2
        rcases h2 with h2 | h2 <;> cases h2
      · obtain ⟨s, t, hn⟩ := read_nan (f := single) (x := y) (by rw [hsw, s_inf]; omega) (by decide +kernel)
        unfold Format.order at h2
        rw [hn] at h2
        rcases h2 with h2 | h2 <;> cases h2
  · obtain ⟨r, hr⟩ : ∃ r, y = 2147483648 + r := ⟨y - 2147483648, by omega⟩
    by_cases c2 : r < 2139095040
    · by_cases c0 : r = 0
      · right; omega
      · exfalso
        have hw : single.word true r = y := by unfold Format.word; rw [hsw, if_pos rfl, hr]
        have hr1 := read_word single true (rung := r) (by rw [s_inf]; exact c2)
        rw [hw, s_binade] at hr1
        have hz : single.read 0 = .number false 0 (-149) := by decide +kernel
        have : single.order y 0 = some .lt := by
          unfold Format.order
          rw [hr1, hz]
          have key : ∀ (m : Nat) (e : Int), m ≠ 0 → Datum.order (.number true m e) (.number false 0 (-149)) = some .lt := by
            intro m e hm
            unfold Datum.order
            dsimp only
            have e1 := signed_natAbs true m (e - min e (-149)).toNat
            have e2 : signed false 0 (-149 - min e (-149)).toNat = 0 := by unfold signed; simp
            rw [e2]
            have h3 : signed true m (e - min e (-149)).toNat < 0 := by
              unfold signed
              rw [if_pos rfl, Nat.shiftLeft_eq]
              have := Nat.mul_pos (show 0 < m by omega) (Nat.two_pow_pos (e - min e (-149)).toNat)
              omega
            congr 1
            simp only [compare, compareOfLessAndEq, h3, if_true]
          split
          · exact key _ _ c0
          · exact key _ _ (by omega)
        rw [this] at h1
        rcases h1 with h1 | h1 <;> cases h1
    · exfalso
      by_cases c3 : r = 2139095040
      · subst c3; subst hr
        have : single.order 4286578688 0 = some .lt := by decide +kernel
        rw [show 2147483648 + 2139095040 = 4286578688 from rfl, this] at h1
        rcases h1 with h1 | h1 <;> cases h1
      · obtain ⟨s, t, hn⟩ := read_nan (f := single) (x := y) (by rw [hsw, s_inf]; omega) (by decide +kernel)
        unfold Format.order at h1
        rw [hn] at h1
        rcases h1 with h1 | h1 <;> cases h1
end Go
