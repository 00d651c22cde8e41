/- Floats: exact words, order by units, signs; calls of body-less functions. Floats: the order of positive words; halves and doubles; numbers that are not small. Rounding keeps the order: what is written is not beyond a word that the exact number does not pass; sums, differences and products of words of no sign, held against words. Words between 0 and 1: quotients, what is left of 1, what is above it; sums of a hundred of them. The logarithm's steps, as plain functions of words; they stay small. Floats: not above a power of two, kept by rounding; whole numbers of floats. Floats: finite, infinite, subnormal; the absolute value. Floats: subnormal numbers; flushing them. Floats: the kinds of a 32-bit word, and what widening makes of each. Tenths of decibels: the floor of a small number, as an integer. Bounds of 32-bit numbers: quotients, products, sums; shares; a small number as an integer. Sums of numbers with signs, held against words; quotients that are not too small. A finite 32-bit number times 1 is itself, bit for bit. -/
import Derived.Test.YtpbbedelapnnnaaFlo
import Derived.Laws.Cover2
import Derived.Laws.BitsAllLaws
import Derived.Laws.FloatArith
namespace Go
open Ieee

/-- A NUMBER THAT THE FORMAT HAS is read back as it was written. -/
theorem read_write_exact (f : Format) (s : Bool) (m : Nat) (e : Int) (hm : m ≠ 0) (h1 : m < 2 * f.binade) (h2 : f.leastPlace ≤ e)
    (h3 : e + m.log2 + 3 ≤ ((2 ^ f.exponentBits : Nat) : Int) + f.fractionBits + f.leastPlace) (hE : 3 ≤ 2 ^ f.exponentBits) :
    ∃ last : Int, last = max (e + m.log2 - f.fractionBits) f.leastPlace ∧ last ≤ e ∧ f.read (f.write (.number s m e)) = .number s (m <<< (e - last).toNat) last := by
  have hB : 0 < f.binade := Nat.two_pow_pos _
  have hl2 : m.log2 ≤ f.fractionBits := by
    have : m < 2 ^ (f.fractionBits + 1) := by rw [Nat.pow_succ]; unfold Format.binade at h1; omega
    have := (Nat.log2_lt hm).2 this
    omega
  refine ⟨_, rfl, by rw [Int.max_le]; omega, ?_⟩
  rw [write_number f s m e hm]
  unfold rungOf
  dsimp only
  have hle : max (e + m.log2 - f.fractionBits) f.leastPlace ≤ e := by rw [Int.max_le]; omega
  have hge1 : e + m.log2 - f.fractionBits ≤ max (e + m.log2 - f.fractionBits) f.leastPlace := Int.le_max_left _ _
  have hge2 : f.leastPlace ≤ max (e + m.log2 - f.fractionBits) f.leastPlace := Int.le_max_right _ _
  have hor : max (e + m.log2 - f.fractionBits) f.leastPlace = e + m.log2 - f.fractionBits ∨ max (e + m.log2 - f.fractionBits) f.leastPlace = f.leastPlace := by omega
  generalize max (e + m.log2 - f.fractionBits) f.leastPlace = last at *
  have hz : (last - e).toNat = 0 := by omega
  rw [hz, cut_zero, Nat.shiftLeft_eq]
  have hlo : 2 ^ m.log2 ≤ m := Nat.log2_self_le hm
  have hhi : m < 2 ^ (m.log2 + 1) := Nat.lt_log2_self
  have hk1 : m * 2 ^ (e - last).toNat < 2 * f.binade := by
    have : m * 2 ^ (e - last).toNat < 2 ^ (m.log2 + 1) * 2 ^ (e - last).toNat := Nat.mul_lt_mul_of_pos_right hhi (Nat.two_pow_pos _)
    rw [← Nat.pow_add] at this
    have e2 : 2 * f.binade = 2 ^ (f.fractionBits + 1) := by unfold Format.binade; rw [Nat.pow_succ]; omega
    rw [e2]
    exact Nat.lt_of_lt_of_le this (Nat.pow_le_pow_right (by decide) (by omega))
  have hinf : (last - f.leastPlace).toNat * f.binade + m * 2 ^ (e - last).toNat < f.infRung := by
    unfold Format.infRung
    refine Nat.lt_of_lt_of_le (Nat.add_lt_add_left hk1 _) ?_
    rw [← Nat.add_mul]
    exact Nat.mul_le_mul_right _ (by omega)
  rw [Nat.min_eq_left (by omega), read_word f s hinf]
  rcases hor with ho | ho
  · have hk2 : f.binade ≤ m * 2 ^ (e - last).toNat := by
      have : 2 ^ m.log2 * 2 ^ (e - last).toNat ≤ m * 2 ^ (e - last).toNat := Nat.mul_le_mul_right _ hlo
      rw [← Nat.pow_add] at this
      refine Nat.le_trans ?_ this
      unfold Format.binade
      exact Nat.pow_le_pow_right (by decide) (by omega)
    rw [if_neg (by omega)]
    obtain ⟨c, hc⟩ : ∃ c, m * 2 ^ (e - last).toNat = f.binade + c := ⟨_, (Nat.add_sub_cancel' hk2).symm⟩
    have hcl : c < f.binade := by omega
    rw [hc, show (last - f.leastPlace).toNat * f.binade + (f.binade + c) = c + ((last - f.leastPlace).toNat + 1) * f.binade by rw [Nat.add_mul]; omega]
    rw [Nat.add_mul_mod_self_right, Nat.add_mul_div_right _ _ hB, Nat.mod_eq_of_lt hcl, Nat.div_eq_of_lt hcl]
    congr 1
    omega
  · have h0 : (last - f.leastPlace).toNat = 0 := by omega
    rw [h0, Nat.zero_mul, Nat.zero_add]
    split
    · rw [ho]
    · rename_i hnb
      have hdiv : m * 2 ^ (e - last).toNat / f.binade = 1 := by
        rw [Nat.div_eq_iff hB]; omega
      have hmod : f.binade + m * 2 ^ (e - last).toNat % f.binade = m * 2 ^ (e - last).toNat := by
        have := Nat.div_add_mod (m * 2 ^ (e - last).toNat) f.binade
        rw [hdiv] at this; omega
      rw [hdiv, hmod]
      congr 1
      omega

theorem signed_scale (s : Bool) (m u v : Nat) : signed s m (u + v) = signed s m u * (2 ^ v : Nat) := by
  unfold signed
  cases s <;> simp [Nat.shiftLeft_eq, Nat.pow_add] <;> push_cast <;> simp [Int.mul_assoc, Int.neg_mul]

theorem compare_scale (a b : Int) (v : Nat) : compare (a * (2 ^ v : Nat)) (b * (2 ^ v : Nat)) = compare a b := by
  have hp : (0 : Int) < ((2 ^ v : Nat) : Int) := by have := Nat.two_pow_pos v; omega
  simp only [compare, compareOfLessAndEq]
  have h1 : (a * ((2 ^ v : Nat) : Int) < b * ((2 ^ v : Nat) : Int)) ↔ a < b := Int.mul_lt_mul_right hp
  have h2 : (a * ((2 ^ v : Nat) : Int) = b * ((2 ^ v : Nat) : Int)) ↔ a = b := Int.mul_eq_mul_right_iff (by omega)
  simp only [h1, h2]

/-- Two numbers, held against each other in whatever unit that both are multiples of. -/
theorem order_units (s t : Bool) (m n : Nat) (i j b : Int) (hi : b ≤ i) (hj : b ≤ j) :
    Datum.order (.number s m i) (.number t n j) = some (compare (signed s m (i - b).toNat) (signed t n (j - b).toNat)) := by
  show some (compare (signed s m (i - min i j).toNat) (signed t n (j - min i j).toNat)) = _
  have hb : b ≤ min i j := by omega
  obtain ⟨v, hv⟩ : ∃ v : Nat, min i j = b + v := ⟨(min i j - b).toNat, by omega⟩
  have e1 : (i - b).toNat = (i - min i j).toNat + v := by omega
  have e2 : (j - b).toNat = (j - min i j).toNat + v := by omega
  rw [e1, e2, signed_scale, signed_scale, compare_scale]

def fsqrt (x : Nat) : Nat := (double.sqrt x).getD (qn .f64)
theorem fsqrt_same {x y : Nat} (h : FS .f64 x y) : fsqrt x = fsqrt y := by
  rcases h with rfl | ⟨a, b⟩
  · rfl
  · obtain ⟨s, t, e⟩ := fnan_read a
    obtain ⟨s', t', e'⟩ := fnan_read b
    have e1 : double.read x = .nan s t := e
    have e2 : double.read y = .nan s' t' := e'
    unfold fsqrt Format.sqrt; rw [e1, e2]; rfl

section
variable {P : Program} (w : World)
theorem run_sqrt (x : Nat) : ∃ r n, (Extern.MathSqrt.sqrt #[.float .f64 x]).run P w = .ok (.float .f64 r) (w.drewN n) ∧ FR .f64 r (fsqrt x) := by
  have hx : Extern.MathSqrt.sqrt #[.float .f64 x] = (match double.sqrt x with
    | some r => pure (.float .f64 r)
    | none => do pure (.float .f64 (← choose (.nanBits .f64 x x)))) := rfl
  rw [hx]
  cases h : double.sqrt x with
  | some r => exact ⟨r, 0, rfl, by unfold fsqrt; rw [h]; exact .inl rfl, double.sqrt_lt h⟩
  | none =>
    refine ⟨(Question.nanBits .f64 x x).cut (w.tape w.drawn (.nanBits .f64 x x)), 1, ?_, .inr ⟨cut_nan _ _ _ _, by unfold fsqrt; rw [h]; exact fnan_qn _⟩, cut_nan_lt _ _ _ _⟩
    simp [Question.forced]; rfl

/-- a call of a function without a body, of one argument -/
theorem wpList_ext1 {ops : Array Oper} {rest : List Oper} {o : Oper} {a : Act} {Q : Exit → Act → World → Prop} (hgd : Region.wanted o (yielded ops a.tmps) = true) (f : FuncId) (x : Operand) (ts : Array TypeId)
    (ho : o.op = .call { callee := .value (.func f), args := #[x], argTypes := ts }) (v : Value) (hx : a.eval x = v) (S : Value → Prop)
    (hrun : ∀ w, ∃ u n, (callFunc f #[v]).run P w = .ok (.value u) (w.drewN n) ∧ S u)
    (h : ∀ u n, S u → wpList P ops Q rest (a.put o.dst u) (w.drewN n)) : wpList P ops Q (o :: rest) a w :=
  wpList_want hgd fun K hK => by
    obtain ⟨u, n, hr, hs⟩ := hrun w
    unfold Oper.wp execOp
    simp only [ho]
    have e : (do let d ← resolve a.eval { callee := .value (.func f), args := #[x], argTypes := ts } o.type; invoke d.target d.args : Sem Next) = callFunc f #[v] := by
      simp only [resolve, List.map_toArray, List.map_cons, List.map_nil, hx]
      rfl
    rw [e, hr]
    exact hK _ _ (h u n hs)
end
end Go

namespace Go
open Ieee

/-! ### the order of words of no sign -/
/-- the number of least units of a rung -/
def units (B r : Nat) : Nat := if r < B then r else (B + r % B) * 2 ^ (r / B - 1)
theorem units_lt {B r r' : Nat} (hB : 0 < B) (h : r < r') : units B r < units B r' := by
  unfold units
  have hm : r % B < B := Nat.mod_lt _ hB
  have hm' : r' % B < B := Nat.mod_lt _ hB
  have hd : B * (r / B) + r % B = r := Nat.div_add_mod r B
  have hd' : B * (r' / B) + r' % B = r' := Nat.div_add_mod r' B
  by_cases h1 : r < B
  · rw [if_pos h1]
    by_cases h2 : r' < B
    · rw [if_pos h2]; exact h
    · rw [if_neg h2]
      have : B + r' % B ≤ (B + r' % B) * 2 ^ (r' / B - 1) := Nat.le_mul_of_pos_right _ (Nat.two_pow_pos _)
      omega
  · rw [if_neg h1, if_neg (by omega)]
    have hq : 1 ≤ r / B := (Nat.le_div_iff_mul_le hB).2 (by omega)
    have hle : r / B ≤ r' / B := Nat.div_le_div_right (by omega)
    by_cases he : r / B = r' / B
    · rw [← he]
      refine Nat.mul_lt_mul_of_pos_right ?_ (Nat.two_pow_pos _)
      rw [he] at hd; omega
    · have h3 : (B + r % B) * 2 ^ (r / B - 1) < (B + B) * 2 ^ (r / B - 1) := Nat.mul_lt_mul_of_pos_right (by omega) (Nat.two_pow_pos _)
      have h4 : (B + B) * 2 ^ (r / B - 1) = B * 2 ^ (r / B) := by
        have : r / B = (r / B - 1) + 1 := by omega
        rw [this, Nat.pow_succ, Nat.add_sub_cancel, ← Nat.two_mul, Nat.mul_comm 2 B, Nat.mul_assoc, Nat.mul_comm 2]
      have h5 : B * 2 ^ (r / B) ≤ B * 2 ^ (r' / B - 1) := Nat.mul_le_mul_left _ (Nat.pow_le_pow_right (by decide) (by omega))
      have h6 : B * 2 ^ (r' / B - 1) ≤ (B + r' % B) * 2 ^ (r' / B - 1) := Nat.mul_le_mul_right _ (by omega)
      omega
theorem compare_units {B x y : Nat} (hB : 0 < B) : compare ((units B x : Nat) : Int) ((units B y : Nat) : Int) = compare x y := by
  rcases Nat.lt_trichotomy x y with h | h | h
  · have h1 := units_lt hB h
    rw [Nat.compare_eq_lt.2 h]
    have : ((units B x : Nat) : Int) < ((units B y : Nat) : Int) := by omega
    simp only [compare, compareOfLessAndEq, this, if_true]
  · subst h
    rw [Nat.compare_eq_eq.2 rfl]
    simp [compare, compareOfLessAndEq]
  · have h1 := units_lt hB h
    rw [Nat.compare_eq_gt.2 h]
    have h2 : ¬ ((units B x : Nat) : Int) < ((units B y : Nat) : Int) := by omega
    have h3 : ¬ ((units B x : Nat) : Int) = ((units B y : Nat) : Int) := by omega
    simp only [compare, compareOfLessAndEq, h2, h3, if_false]
theorem read_pos (f : Format) {x : Nat} (hx : x < f.infRung) : ∃ (m : Nat) (e : Int), f.read x = .number false m e ∧ f.leastPlace ≤ e ∧ m * 2 ^ (e - f.leastPlace).toNat = units f.binade x := by
  have h := read_word f false hx
  have hw : f.word false x = x := rfl
  rw [hw] at h
  rw [h]
  unfold units
  split
  · exact ⟨_, _, rfl, Int.le_refl _, by simp⟩
  · refine ⟨_, _, rfl, by omega, ?_⟩
    congr 2
    omega
theorem order_pos (f : Format) {x y : Nat} (hx : x < f.infRung) (hy : y < f.infRung) : f.order x y = some (compare x y) := by
  obtain ⟨m, e, h1, h2, h3⟩ := read_pos f hx
  obtain ⟨n, d, g1, g2, g3⟩ := read_pos f hy
  unfold Format.order
  rw [h1, g1, order_units false false m n e d f.leastPlace h2 g2]
  have e1 : signed false m (e - f.leastPlace).toNat = ((units f.binade x : Nat) : Int) := by unfold signed; rw [← h3, Nat.shiftLeft_eq]; rfl
  have e2 : signed false n (d - f.leastPlace).toNat = ((units f.binade y : Nat) : Int) := by unfold signed; rw [← g3, Nat.shiftLeft_eq]; rfl
  rw [e1, e2, compare_units (show 0 < f.binade from Nat.two_pow_pos _)]

/-! ### rounding does not mind the unit -/
theorem log2_mul_pow (m j : Nat) (hm : m ≠ 0) : (m * 2 ^ j).log2 = m.log2 + j := by
  have h1 : m < 2 ^ (m.log2 + 1) := Nat.lt_log2_self
  have h2 : 2 ^ m.log2 ≤ m := Nat.log2_self_le hm
  have hp : 0 < 2 ^ j := Nat.two_pow_pos j
  have hne : m * 2 ^ j ≠ 0 := Nat.mul_ne_zero hm (by omega)
  have h3 : m * 2 ^ j < 2 ^ (m.log2 + j + 1) := by
    have : 2 ^ (m.log2 + j + 1) = 2 ^ (m.log2 + 1) * 2 ^ j := by rw [← Nat.pow_add]; congr 1; omega
    rw [this]; exact Nat.mul_lt_mul_of_pos_right h1 hp
  have h4 : 2 ^ (m.log2 + j) ≤ m * 2 ^ j := by rw [Nat.pow_add]; exact Nat.mul_le_mul_right _ h2
  have a := (Nat.log2_lt hne).2 h3
  have b := (Nat.le_log2 hne).2 h4
  omega
theorem cut_scale (way : Toward) (neg : Bool) (n d j : Nat) (hn : n ≠ 0) : way.cut neg (n * 2 ^ j) (d + j) = way.cut neg n d := by
  unfold Toward.cut
  dsimp only
  rw [log2_mul_pow n j hn, Nat.one_shiftLeft, Nat.one_shiftLeft]
  have hmin : min (d + j) (n.log2 + j + 2) = min d (n.log2 + 2) + j := by omega
  rw [hmin, Nat.pow_add]
  have hp : 0 < 2 ^ j := Nat.two_pow_pos j
  rw [Nat.mul_div_mul_right _ _ hp, Nat.mul_mod_mul_right]
  generalize 2 ^ min d (n.log2 + 2) = g
  generalize n % g = r
  generalize n / g = q
  generalize 2 ^ j = P at *
  have c1 : decide (g * P < 2 * (r * P)) = decide (g < 2 * r) := by
    rw [← Nat.mul_assoc]
    exact decide_eq_decide.2 (Nat.mul_lt_mul_right hp)
  have c2 : (g * P == 2 * (r * P)) = (g == 2 * r) := by
    rw [← Nat.mul_assoc]
    rw [Bool.eq_iff_iff, beq_iff_eq, beq_iff_eq]
    exact Nat.mul_right_cancel_iff hp
  have c3 : (r * P != 0) = (r != 0) := by
    rw [Bool.eq_iff_iff, bne_iff_ne, bne_iff_ne]
    exact ⟨fun h h0 => h (by rw [h0, Nat.zero_mul]), fun h h0 => by rcases Nat.mul_eq_zero.1 h0 with h1 | h1 <;> omega⟩
  rw [c1, c2, c3]
theorem cut_shift (way : Toward) (neg : Bool) (n : Nat) (p : Int) (hn : n ≠ 0) (j : Nat) :
    way.cut neg ((n * 2 ^ j) <<< (p - j).toNat) ((j : Int) - p).toNat = way.cut neg (n <<< p.toNat) (-p).toNat := by
  rw [Nat.shiftLeft_eq, Nat.shiftLeft_eq]
  by_cases h1 : (j : Int) ≤ p
  · have e1 : ((j : Int) - p).toNat = 0 := by omega
    have e2 : (-p).toNat = 0 := by omega
    have e3 : n * 2 ^ j * 2 ^ (p - j).toNat = n * 2 ^ p.toNat := by
      rw [Nat.mul_assoc, ← Nat.pow_add]; congr 2; omega
    rw [e1, e2, e3]
  · have e1 : (p - j).toNat = 0 := by omega
    rw [e1, Nat.pow_zero, Nat.mul_one]
    by_cases h2 : 0 ≤ p
    · have e2 : (-p).toNat = 0 := by omega
      have e3 : n * 2 ^ j = (n * 2 ^ p.toNat) * 2 ^ ((j : Int) - p).toNat := by
        rw [Nat.mul_assoc, ← Nat.pow_add]; congr 2; omega
      rw [e3, e2]
      have := cut_scale way neg (n * 2 ^ p.toNat) 0 ((j : Int) - p).toNat (Nat.mul_ne_zero hn (Nat.pos_iff_ne_zero.1 (Nat.two_pow_pos _)))
      rw [Nat.zero_add] at this
      exact this
    · have e2 : p.toNat = 0 := by omega
      have e3 : ((j : Int) - p).toNat = (-p).toNat + j := by omega
      rw [e2, Nat.pow_zero, Nat.mul_one, e3]
      exact cut_scale way neg n _ j hn
theorem nearest_scale (f : Format) (neg : Bool) (m j : Nat) (e : Int) : f.nearest neg (m * 2 ^ j) (e - j) = f.nearest neg m e := by
  by_cases hm : m = 0
  · subst hm; unfold Format.nearest; simp
  · have hne : m * 2 ^ j ≠ 0 := Nat.mul_ne_zero hm (Nat.pos_iff_ne_zero.1 (Nat.two_pow_pos j))
    unfold Format.nearest
    rw [if_neg hne, if_neg hm]
    dsimp only
    rw [log2_mul_pow m j hm]
    have hl : e - (j : Int) + ((m.log2 + j : Nat) : Int) - f.fractionBits = e + (m.log2 : Int) - f.fractionBits := by omega
    rw [hl]
    generalize max (e + (m.log2 : Int) - f.fractionBits) f.leastPlace = last
    have e1 : (e - (j : Int) - last) = (e - last) - j := by omega
    have e2 : (last - (e - (j : Int))) = (j : Int) - (e - last) := by omega
    have e3 : (last - e) = -(e - last) := by omega
    rw [e1, e2, e3, cut_shift _ _ _ _ hm]

/-- a whole significand at its place is its own word -/
theorem write_whole (f : Format) (s : Bool) (m : Nat) (e : Int) (h0 : f.binade ≤ m) (h1 : m < 2 * f.binade) (h2 : f.leastPlace ≤ e) (h3 : (e - f.leastPlace).toNat * f.binade + m < f.infRung) :
    f.write (.number s m e) = f.word s ((e - f.leastPlace).toNat * f.binade + m) := by
  have hB : 0 < f.binade := Nat.two_pow_pos _
  have hl : m.log2 = f.fractionBits := by
    have a := (Nat.log2_lt (by omega)).2 (show m < 2 ^ (f.fractionBits + 1) by rw [Nat.pow_succ]; unfold Format.binade at h1; omega)
    have b := (Nat.le_log2 (by omega)).2 (show 2 ^ f.fractionBits ≤ m from h0)
    omega
  rw [write_number f s m e (by omega)]
  unfold rungOf
  dsimp only
  rw [hl]
  have hmax : max (e + (f.fractionBits : Int) - f.fractionBits) f.leastPlace = e := by omega
  rw [hmax, Int.sub_self]
  have : (0 : Int).toNat = 0 := rfl
  rw [this, cut_zero, Nat.shiftLeft_eq, Nat.pow_zero, Nat.mul_one, Nat.min_eq_left (by omega)]
theorem read_whole (f : Format) {x : Nat} (h0 : f.binade ≤ x) (hx : x < f.infRung) : ∃ (m : Nat) (e : Int), f.read x = .number false m e ∧ f.binade ≤ m ∧ m < 2 * f.binade ∧ f.leastPlace ≤ e ∧ x = (e - f.leastPlace).toNat * f.binade + m := by
  have hB : 0 < f.binade := Nat.two_pow_pos _
  have h := read_word f false hx
  have hw : f.word false x = x := rfl
  rw [hw, if_neg (by omega)] at h
  have hm := Nat.mod_lt x hB
  have hd := Nat.div_add_mod x f.binade
  have hq : 1 ≤ x / f.binade := (Nat.le_div_iff_mul_le hB).2 (by omega)
  obtain ⟨q, hq'⟩ : ∃ q, x / f.binade = q + 1 := ⟨x / f.binade - 1, by omega⟩
  refine ⟨_, _, h, by omega, by omega, by omega, ?_⟩
  have e1 : (f.leastPlace + ((x / f.binade - 1 : Nat) : Int) - f.leastPlace).toNat = q := by omega
  rw [e1]
  rw [hq', Nat.mul_add, Nat.mul_one, Nat.mul_comm] at hd
  omega

theorem word_pos (f : Format) (r : Nat) : f.word false r = r := rfl
theorem write_nearest (f : Format) (s : Bool) (m : Nat) (e : Int) : f.write (.number s m e) = f.nearest s m e := rfl
theorem read_two : double.read 4611686018427387904 = .number false 4503599627370496 (-51) := by decide +kernel
/-- half of a number -/
theorem half64 {x : Nat} (h0 : 9007199254740992 ≤ x) (hx : x < double.infRung) : fop .quo .f64 x 4611686018427387904 = x - 4503599627370496 := by
  have hb : double.binade = 4503599627370496 := by decide +kernel
  have hlp : double.leastPlace = -1074 := by decide +kernel
  obtain ⟨m, e, h1, h2, h3, h4, h5⟩ := read_whole double (by rw [hb]; omega) hx
  rw [hb] at h2 h3 h5
  rw [hlp] at h4 h5
  have hl : m.log2 = 52 := by
    have a := (Nat.log2_lt (by omega)).2 (show m < 2 ^ 53 by omega)
    have b := (Nat.le_log2 (by omega)).2 (show 2 ^ 52 ≤ m by omega)
    omega
  have hq : (Datum.number false m e).quotient 54 (.number false 4503599627370496 (-51)) = some (.number false (m * 2 ^ 3) (e - 4)) := by
    simp only [Datum.quotient]
    rw [if_neg (by decide)]
    have hl2 : (4503599627370496 : Nat).log2 = 52 := by decide +kernel
    rw [hl2, hl]
    have hs : m <<< (54 + 52 - 52) = (m * 4) * 4503599627370496 := by rw [Nat.shiftLeft_eq]; omega
    rw [hs, Nat.mul_div_cancel _ (by decide), Nat.mul_mod_left]
    have e2 : (2 * (m * 4) + ((0 : Nat) != 0).toNat) = m * 2 ^ 3 := by
      show 2 * (m * 4) + 0 = m * 8
      omega
    have e3 : e - -51 - ((54 + 52 - 52 : Nat) : Int) - 1 = e - 4 := by omega
    rw [e2, e3]
    rfl
  unfold fop floatBits
  dsimp only
  show ((double.div x 4611686018427387904)).getD _ = _
  unfold Format.div
  rw [h1, read_two]
  show (((Datum.number false m e).quotient 54 _).map double.write).getD _ = _
  rw [hq]
  show double.nearest false (m * 2 ^ 3) (e - 4) = _
  have e4 : e - 4 = (e - 1) - ((3 : Nat) : Int) := by omega
  rw [e4, nearest_scale]
  have hge : 1 ≤ (e - -1074).toNat := by
    rcases Nat.eq_zero_or_pos (e - -1074).toNat with h | h
    · rw [h] at h5; omega
    · exact h
  have hlt : (e - 1 - -1074).toNat * 4503599627370496 + m = x - 4503599627370496 := by
    have : (e - -1074).toNat = (e - 1 - -1074).toNat + 1 := by omega
    rw [this, Nat.add_mul] at h5
    omega
  have := write_whole double false m (e - 1) (by rw [hb]; exact h2) (by rw [hb]; exact h3) (by rw [hlp]; omega) (by rw [hlp, hb, hlt]; omega)
  rw [hlp, hb, hlt, word_pos, write_nearest] at this
  exact this
/-- twice a number -/
theorem twice64 {x : Nat} (h0 : 4503599627370496 ≤ x) (hx : x + 4503599627370496 < double.infRung) : fop .mul .f64 x 4611686018427387904 = x + 4503599627370496 := by
  have hb : double.binade = 4503599627370496 := by decide +kernel
  have hlp : double.leastPlace = -1074 := by decide +kernel
  obtain ⟨m, e, h1, h2, h3, h4, h5⟩ := read_whole double (by rw [hb]; omega) (show x < double.infRung by omega)
  rw [hb] at h2 h3 h5
  rw [hlp] at h4 h5
  unfold fop floatBits
  dsimp only
  show ((double.mul x 4611686018427387904)).getD _ = _
  unfold Format.mul
  rw [h1, read_two]
  have hp : (Datum.number false m e).product (.number false 4503599627370496 (-51)) = some (.number false (m * 4503599627370496) (e + -51)) := rfl
  rw [hp, Option.map_some, Option.getD_some, write_nearest]
  have e4 : e + -51 = (e + 1) - ((52 : Nat) : Int) := by omega
  have e6 : (4503599627370496 : Nat) = 2 ^ 52 := by simp only [Nat.reducePow]
  have e5 : m * 4503599627370496 = m * 2 ^ 52 := congrArg (m * ·) e6
  rw [e4, e5, nearest_scale]
  clear e4 e5 e6
  have hlt : (e + 1 - -1074).toNat * 4503599627370496 + m = x + 4503599627370496 := by
    have : (e + 1 - -1074).toNat = (e - -1074).toNat + 1 := by omega
    rw [this, Nat.add_mul]
    omega
  have := write_whole double false m (e + 1) (by rw [hb]; exact h2) (by rw [hb]; exact h3) (by rw [hlp]; omega) (by rw [hlp, hb, hlt]; omega)
  rw [hlp, hb, hlt, word_pos, write_nearest] at this
  exact this
end Go

namespace Go
open Ieee
theorem cut_ge8 (neg : Bool) {n drop a : Nat} (h : a * 2 ^ drop ≤ n) : a ≤ Toward.even.cut neg n drop := by
  unfold Toward.cut
  dsimp only
  rw [Nat.one_shiftLeft]
  have hp : 0 < 2 ^ min drop (n.log2 + 2) := Nat.two_pow_pos _
  have h1 : a ≤ n / 2 ^ min drop (n.log2 + 2) := by
    rw [Nat.le_div_iff_mul_le hp]
    exact Nat.le_trans (Nat.mul_le_mul_left _ (Nat.pow_le_pow_right (by decide) (Nat.min_le_left _ _))) h
  omega
theorem cut_le8 (neg : Bool) {n drop a : Nat} (h : n ≤ a * 2 ^ drop) : Toward.even.cut neg n drop ≤ a := by
  rcases Nat.lt_or_eq_of_le h with h | h
  · exact cut_le neg n drop a h
  · by_cases h0 : n = 0
    · subst h0
      have ha : a = 0 := by
        rcases Nat.mul_eq_zero.1 h.symm with h | h
        · exact h
        · exact absurd h (Nat.ne_of_gt (Nat.two_pow_pos _))
      unfold Toward.cut
      simp
    · have hd : drop ≤ n.log2 + 2 := by
        have h1 : 2 ^ drop ≤ n := by
          rw [h]
          refine Nat.le_mul_of_pos_left _ ?_
          rcases Nat.eq_zero_or_pos a with ha | ha
          · subst ha
            rw [Nat.zero_mul] at h
            exact absurd h h0
          · exact ha
        have := (Nat.le_log2 h0).2 h1
        omega
      unfold Toward.cut
      dsimp only
      rw [Nat.one_shiftLeft, Nat.min_eq_left hd, h, Nat.mul_div_cancel _ (Nat.two_pow_pos _), Nat.mul_mod_left]
      have hp : 0 < 2 ^ drop := Nat.two_pow_pos _
      have e1 : decide (2 ^ drop < 2 * 0) = false := decide_eq_false (by omega)
      have e2 : (2 ^ drop == 2 * 0) = false := by
        rw [Nat.mul_zero]
        exact beq_false_of_ne (by omega)
      rw [e1, e2]
      simp
/-- the place of the last digit, above the least one -/
def upOf (f : Format) (n d : Nat) : Nat := n.log2 - d - f.fractionBits
theorem rung_form (f : Format) (neg : Bool) {n : Nat} (d : Nat) : rungOf f neg n (f.leastPlace - d) = upOf f n d * f.binade + Toward.even.cut neg n (upOf f n d + d) := by
  unfold rungOf upOf
  dsimp only
  have e1 : max (f.leastPlace - (d : Int) + (n.log2 : Int) - (f.fractionBits : Int)) f.leastPlace = f.leastPlace + ((n.log2 - d - f.fractionBits : Nat) : Int) := by omega
  rw [e1]
  have e2 : (f.leastPlace - (d : Int) - (f.leastPlace + ((n.log2 - d - f.fractionBits : Nat) : Int))).toNat = 0 := by omega
  have e3 : (f.leastPlace + ((n.log2 - d - f.fractionBits : Nat) : Int) - (f.leastPlace - (d : Int))).toNat = (n.log2 - d - f.fractionBits) + d := by omega
  have e4 : (f.leastPlace + ((n.log2 - d - f.fractionBits : Nat) : Int) - f.leastPlace).toNat = n.log2 - d - f.fractionBits := by omega
  rw [e2, e3, e4, Nat.shiftLeft_zero]
theorem binade_pow (f : Format) (k : Nat) : f.binade * 2 ^ k = 2 ^ (f.fractionBits + k) := by unfold Format.binade; rw [Nat.pow_add]
theorem rung_ge (f : Format) (neg : Bool) {n y d : Nat} (hn : n ≠ 0) (h : units f.binade y * 2 ^ d ≤ n) : y ≤ rungOf f neg n (f.leastPlace - d) := by
  have hB : 0 < f.binade := Nat.two_pow_pos _
  rw [rung_form]
  have hL : 2 ^ n.log2 ≤ n := Nat.log2_self_le hn
  unfold units at h
  by_cases hy : y < f.binade
  · rw [if_pos hy] at h
    by_cases ht : upOf f n d = 0
    · rw [ht, Nat.zero_add]
      have := cut_ge8 neg h
      omega
    · have : f.binade ≤ upOf f n d * f.binade := Nat.le_mul_of_pos_left _ (by omega)
      omega
  · rw [if_neg hy] at h
    have hq : 1 ≤ y / f.binade := (Nat.le_div_iff_mul_le hB).2 (by omega)
    have hd : f.binade * (y / f.binade) + y % f.binade = y := Nat.div_add_mod y f.binade
    have hr : y % f.binade < f.binade := Nat.mod_lt _ hB
    generalize y / f.binade = q at *
    generalize y % f.binade = r at *
    have h1 : (f.binade + r) * 2 ^ (q - 1 + d) ≤ n := by rw [Nat.pow_add, ← Nat.mul_assoc]; exact h
    have h2 : 2 ^ (f.fractionBits + (q - 1 + d)) ≤ n := by
      rw [← binade_pow]
      exact Nat.le_trans (Nat.mul_le_mul_right _ (by omega)) h1
    have h3 : f.fractionBits + (q - 1 + d) ≤ n.log2 := (Nat.le_log2 hn).2 h2
    have ht : q - 1 ≤ upOf f n d := by unfold upOf; omega
    rcases Nat.lt_or_eq_of_le ht with ht | ht
    · have h4 : upOf f n d + d + f.fractionBits = n.log2 := by unfold upOf at ht ⊢; omega
      have h5 : f.binade ≤ Toward.even.cut neg n (upOf f n d + d) := by
        refine cut_ge8 neg ?_
        rw [binade_pow, show f.fractionBits + (upOf f n d + d) = n.log2 by omega]
        exact hL
      have h6 : q * f.binade ≤ upOf f n d * f.binade := Nat.mul_le_mul_right _ (by omega)
      rw [Nat.mul_comm f.binade q] at hd
      omega
    · rw [← ht]
      have h5 := cut_ge8 neg h1
      have h6 : q * f.binade = (q - 1) * f.binade + f.binade := by
        rw [← Nat.succ_mul]; congr 1; omega
      rw [Nat.mul_comm f.binade q] at hd
      omega
theorem rung_le (f : Format) (neg : Bool) {n y d : Nat} (hn : n ≠ 0) (h : n ≤ units f.binade y * 2 ^ d) : rungOf f neg n (f.leastPlace - d) ≤ y := by
  have hB : 0 < f.binade := Nat.two_pow_pos _
  rw [rung_form]
  have hL : n < 2 ^ (n.log2 + 1) := Nat.lt_log2_self
  unfold units at h
  by_cases hy : y < f.binade
  · rw [if_pos hy] at h
    have h1 : n < 2 ^ (f.fractionBits + d) := by
      rw [← binade_pow]
      exact Nat.lt_of_le_of_lt h (Nat.mul_lt_mul_of_pos_right hy (Nat.two_pow_pos _))
    have h2 := (Nat.log2_lt hn).2 h1
    have ht : upOf f n d = 0 := by unfold upOf; omega
    rw [ht, Nat.zero_mul, Nat.zero_add, Nat.zero_add]
    exact cut_le8 neg h
  · rw [if_neg hy] at h
    have hq : 1 ≤ y / f.binade := (Nat.le_div_iff_mul_le hB).2 (by omega)
    have hd : f.binade * (y / f.binade) + y % f.binade = y := Nat.div_add_mod y f.binade
    have hr : y % f.binade < f.binade := Nat.mod_lt _ hB
    generalize y / f.binade = q at *
    generalize y % f.binade = r at *
    have h1 : n ≤ (f.binade + r) * 2 ^ (q - 1 + d) := by rw [Nat.pow_add, ← Nat.mul_assoc]; exact h
    have h2 : n < 2 ^ (f.fractionBits + (q + d)) := by
      refine Nat.lt_of_le_of_lt h1 ?_
      rw [← binade_pow, show q + d = (q - 1 + d) + 1 by omega, Nat.pow_succ, ← Nat.mul_assoc, Nat.mul_right_comm]
      exact Nat.mul_lt_mul_of_pos_right (by omega) (Nat.two_pow_pos _)
    have h3 := (Nat.log2_lt hn).2 h2
    have ht : upOf f n d ≤ q - 1 := by unfold upOf; omega
    have h6 : q * f.binade = (q - 1) * f.binade + f.binade := by
      rw [← Nat.succ_mul]; congr 1; omega
    rw [Nat.mul_comm f.binade q] at hd
    rcases Nat.lt_or_eq_of_le ht with ht | ht
    · have h5 : Toward.even.cut neg n (upOf f n d + d) ≤ 2 * f.binade := by
        refine cut_le8 neg ?_
        rw [Nat.mul_assoc, binade_pow, Nat.mul_comm, ← Nat.pow_succ]
        refine Nat.le_trans (Nat.le_of_lt hL) (Nat.pow_le_pow_right (by decide) ?_)
        unfold upOf; omega
      have h7 : (upOf f n d + 1) * f.binade ≤ (q - 1) * f.binade := Nat.mul_le_mul_right _ (by omega)
      rw [Nat.succ_mul] at h7
      omega
    · rw [ht]
      have h5 := cut_le8 neg h1
      omega
theorem near_ge (f : Format) {n y d : Nat} (hy : y ≤ f.infRung) (h : units f.binade y * 2 ^ d ≤ n) : y ≤ f.nearest false n (f.leastPlace - d) := by
  by_cases hn : n = 0
  · subst hn
    have hy0 : y = 0 := by
      rcases Nat.eq_zero_or_pos y with h0 | h0
      · exact h0
      · have h1 := units_lt (B := f.binade) (Nat.two_pow_pos _) h0
        have h2 := Nat.mul_pos (show 0 < units f.binade y by omega) (Nat.two_pow_pos d)
        omega
    omega
  · have h1 := rung_ge f false hn h
    have h2 := write_number f false n (f.leastPlace - d) hn
    have h3 : f.write (.number false n (f.leastPlace - d)) = f.nearest false n (f.leastPlace - d) := rfl
    rw [← h3, h2]
    show y ≤ min _ _
    omega
theorem near_le (f : Format) {n y d : Nat} (h : n ≤ units f.binade y * 2 ^ d) : f.nearest false n (f.leastPlace - d) ≤ y := by
  by_cases hn : n = 0
  · subst hn
    unfold Format.nearest
    rw [if_pos rfl]
    exact Nat.zero_le _
  · have h1 := rung_le f false hn h
    have h2 := write_number f false n (f.leastPlace - d) hn
    have h3 : f.write (.number false n (f.leastPlace - d)) = f.nearest false n (f.leastPlace - d) := rfl
    rw [← h3, h2]
    show min _ _ ≤ y
    omega
/-- the number of least units of a 32-bit word of no sign -/
def uv (x : Nat) : Nat := units 8388608 x
theorem s_binade : single.binade = 8388608 := by decide +kernel
theorem s_inf : single.infRung = 2139095040 := by decide +kernel
theorem s_least : single.leastPlace = -149 := by decide +kernel
theorem uv_lt {x y : Nat} (h : x < y) : uv x < uv y := units_lt (by decide) h
theorem uv_le {x y : Nat} (h : x ≤ y) : uv x ≤ uv y := by
  rcases Nat.lt_or_eq_of_le h with h | h
  · exact Nat.le_of_lt (uv_lt h)
  · rw [h]; exact Nat.le_refl _
theorem le_uv {x y : Nat} (h : uv x ≤ uv y) : x ≤ y := by
  rcases Nat.lt_or_ge y x with g | g
  · have := uv_lt g; omega
  · exact g
theorem uv_zero : uv 0 = 0 := by decide +kernel
theorem uv_one : uv 1065353216 = 2 ^ 149 := by decide +kernel
theorem read_uv {x : Nat} (hx : x < 2139095040) : ∃ m u : Nat, single.read x = .number false m (-149 + u) ∧ m * 2 ^ u = uv x := by
  obtain ⟨m, e, h1, h2, h3⟩ := read_pos single (x := x) (by rw [s_inf]; exact hx)
  rw [s_least] at h2 h3
  rw [s_binade] at h3
  refine ⟨m, (e + 149).toNat, ?_, ?_⟩
  · rw [h1]; congr 1; omega
  · rw [show (e + 149).toNat = (e - -149).toNat by omega]; exact h3
/-- the nearest word of a number of least units -/
def nw (n : Nat) : Nat := single.nearest false n (-149)
/-- .. of a number of squares of them -/
def nw2 (n : Nat) : Nat := single.nearest false n (-149 - (149 : Nat))
theorem nw_ge {n y : Nat} (hy : y ≤ 2139095040) (h : uv y ≤ n) : y ≤ nw n := by
  have := near_ge single (n := n) (y := y) (d := 0) (by rw [s_inf]; exact hy) (by rw [s_binade, Nat.pow_zero, Nat.mul_one]; exact h)
  rw [s_least] at this
  exact this
theorem nw_le {n y : Nat} (h : n ≤ uv y) : nw n ≤ y := by
  have := near_le single (n := n) (y := y) (d := 0) (by rw [s_binade, Nat.pow_zero, Nat.mul_one]; exact h)
  rw [s_least] at this
  exact this
theorem nw2_ge {n y : Nat} (hy : y ≤ 2139095040) (h : uv y * 2 ^ 149 ≤ n) : y ≤ nw2 n := by
  have := near_ge single (n := n) (y := y) (d := 149) (by rw [s_inf]; exact hy) (by rw [s_binade]; exact h)
  rw [s_least] at this
  exact this
theorem nw2_le {n y : Nat} (h : n ≤ uv y * 2 ^ 149) : nw2 n ≤ y := by
  have := near_le single (n := n) (y := y) (d := 149) (by rw [s_binade]; exact h)
  rw [s_least] at this
  exact this
theorem nw_uv {x : Nat} (hx : x ≤ 2139095040) : nw (uv x) = x := Nat.le_antisymm (nw_le (Nat.le_refl _)) (nw_ge hx (Nat.le_refl _))
theorem near_up (n u : Nat) (p : Int) : single.nearest false n (p + u) = single.nearest false (n * 2 ^ u) p := by
  rw [← nearest_scale single false n u (p + u)]
  congr 1; omega
theorem sum_pos (m u n v : Nat) : (Datum.number false m (-149 + u)).sum (.number false n (-149 + v)) = some (.number false (m * 2 ^ (u - min u v) + n * 2 ^ (v - min u v)) (-149 + (min u v : Nat))) := by
  unfold Datum.sum
  dsimp only
  have e0 : min (-149 + (u : Int)) (-149 + (v : Int)) = -149 + ((min u v : Nat) : Int) := by omega
  rw [e0]
  have e1 : (-149 + (u : Int) - (-149 + ((min u v : Nat) : Int))).toNat = u - min u v := by omega
  have e2 : (-149 + (v : Int) - (-149 + ((min u v : Nat) : Int))).toNat = v - min u v := by omega
  rw [e1, e2]
  unfold signed
  simp only [Bool.false_eq_true, if_false, Nat.shiftLeft_eq]
  have e3 : ((m * 2 ^ (u - min u v) : Nat) : Int) + ((n * 2 ^ (v - min u v) : Nat) : Int) = ((m * 2 ^ (u - min u v) + n * 2 ^ (v - min u v) : Nat) : Int) := by omega
  rw [e3]
  generalize m * 2 ^ (u - min u v) + n * 2 ^ (v - min u v) = T
  congr 2
  · have : decide ((T : Int) < 0) = false := decide_eq_false (by omega)
    rw [this]; simp
theorem fadd_nw {x y : Nat} (hx : x < 2139095040) (hy : y < 2139095040) : fop .add .f32 x y = nw (uv x + uv y) := by
  obtain ⟨m, u, h1, h2⟩ := read_uv hx
  obtain ⟨n, v, g1, g2⟩ := read_uv hy
  show (single.add x y).getD (qn .f32) = _
  unfold Format.add
  rw [h1, g1, sum_pos, Option.map_some, Option.getD_some]
  show single.nearest false _ _ = _
  rw [near_up, Nat.add_mul, Nat.mul_assoc, Nat.mul_assoc, ← Nat.pow_add, ← Nat.pow_add, show u - min u v + min u v = u by omega, show v - min u v + min u v = v by omega, h2, g2]
  rfl
theorem sub_pos (m u n v : Nat) (h : n * 2 ^ v ≤ m * 2 ^ u) : (Datum.number false m (-149 + u)).sum (.number true n (-149 + v)) = some (.number false (m * 2 ^ (u - min u v) - n * 2 ^ (v - min u v)) (-149 + (min u v : Nat))) := by
  unfold Datum.sum
  dsimp only
  have e0 : min (-149 + (u : Int)) (-149 + (v : Int)) = -149 + ((min u v : Nat) : Int) := by omega
  rw [e0]
  have e1 : (-149 + (u : Int) - (-149 + ((min u v : Nat) : Int))).toNat = u - min u v := by omega
  have e2 : (-149 + (v : Int) - (-149 + ((min u v : Nat) : Int))).toNat = v - min u v := by omega
  rw [e1, e2]
  have h' : n * 2 ^ (v - min u v) ≤ m * 2 ^ (u - min u v) := by
    refine Nat.le_of_mul_le_mul_right (c := 2 ^ min u v) ?_ (Nat.two_pow_pos _)
    rw [Nat.mul_assoc, Nat.mul_assoc, ← Nat.pow_add, ← Nat.pow_add, show u - min u v + min u v = u by omega, show v - min u v + min u v = v by omega]
    exact h
  unfold signed
  simp only [Bool.false_eq_true, if_false, if_true, Nat.shiftLeft_eq]
  generalize m * 2 ^ (u - min u v) = M at *
  generalize n * 2 ^ (v - min u v) = N at *
  have e3 : ((M : Nat) : Int) + -((N : Nat) : Int) = ((M - N : Nat) : Int) := by omega
  rw [e3]
  congr 2
  · have : decide (((M - N : Nat) : Int) < 0) = false := decide_eq_false (by omega)
    rw [this]; simp
theorem fsub_nw {x y : Nat} (hx : x < 2139095040) (hy : y ≤ x) : fop .sub .f32 x y = nw (uv x - uv y) := by
  obtain ⟨m, u, h1, h2⟩ := read_uv hx
  obtain ⟨n, v, g1, g2⟩ := read_uv (x := y) (by omega)
  show (single.sub x y).getD (qn .f32) = _
  unfold Format.sub
  rw [h1, g1]
  show (((Datum.number false m (-149 + u)).sum (.number true n (-149 + v))).map _).getD _ = _
  rw [sub_pos m u n v (by rw [h2, g2]; exact uv_le hy), Option.map_some, Option.getD_some]
  show single.nearest false _ _ = _
  rw [near_up, Nat.sub_mul, Nat.mul_assoc, Nat.mul_assoc, ← Nat.pow_add, ← Nat.pow_add, show u - min u v + min u v = u by omega, show v - min u v + min u v = v by omega, h2, g2]
  rfl
theorem fmul_nw {x y : Nat} (hx : x < 2139095040) (hy : y < 2139095040) : fop .mul .f32 x y = nw2 (uv x * uv y) := by
  obtain ⟨m, u, h1, h2⟩ := read_uv hx
  obtain ⟨n, v, g1, g2⟩ := read_uv hy
  show (single.mul x y).getD (qn .f32) = _
  unfold Format.mul
  rw [h1, g1]
  show single.nearest (false ^^ false) (m * n) (-149 + u + (-149 + v)) = _
  rw [show (-149 : Int) + u + (-149 + v) = (-149 - (149 : Nat)) + ((u + v : Nat) : Int) by omega, Bool.xor_false, near_up, Nat.pow_add, ← h2, ← g2]
  unfold nw2
  congr 1
  rw [Nat.mul_mul_mul_comm]
/-! what follows for words between +0 and 1 -/
theorem add_le {x y z : Nat} (hx : x < 2139095040) (hy : y < 2139095040) (h : uv x + uv y ≤ uv z) : fop .add .f32 x y ≤ z := by rw [fadd_nw hx hy]; exact nw_le h
theorem add_ge {x y z : Nat} (hx : x < 2139095040) (hy : y < 2139095040) (hz : z ≤ 2139095040) (h : uv z ≤ uv x + uv y) : z ≤ fop .add .f32 x y := by rw [fadd_nw hx hy]; exact nw_ge hz h
theorem add_zero32 {x : Nat} (hx : x < 2139095040) : fop .add .f32 x 0 = x := by
  rw [fadd_nw hx (by decide), uv_zero, Nat.add_zero, nw_uv (by omega)]
theorem mul_one_le {x y : Nat} (hx : x < 2139095040) (hy : y ≤ 1065353216) : fop .mul .f32 x y ≤ x := by
  rw [fmul_nw hx (by omega)]
  refine nw2_le (Nat.mul_le_mul_left _ ?_)
  rw [← uv_one]; exact uv_le hy
theorem mul_comm32 {x y : Nat} (hx : x < 2139095040) (hy : y < 2139095040) : fop .mul .f32 x y = fop .mul .f32 y x := by
  rw [fmul_nw hx hy, fmul_nw hy hx, Nat.mul_comm]
theorem mul_zero32 {x : Nat} (hx : x < 2139095040) : fop .mul .f32 x 0 = 0 := by
  rw [fmul_nw hx (by decide), uv_zero, Nat.mul_zero]
  exact Nat.le_zero.1 (nw2_le (Nat.zero_le _))
theorem sub_le {x y : Nat} (hx : x < 2139095040) (hy : y ≤ x) : fop .sub .f32 x y ≤ x := by
  rw [fsub_nw hx hy]; exact nw_le (Nat.sub_le _ _)
end Go

namespace Go
open Ieee
theorem quo_uv {m u n v : Nat} (hn : n ≠ 0) (h : m * 2 ^ u ≤ n * 2 ^ v) (more : Nat) (hmore : more = 25 + n.log2 - m.log2) : (2 * ((m <<< more) / n) + ((m <<< more) % n != 0).toNat) * 2 ^ u ≤ 2 ^ (v + more + 1) := by
  rw [Nat.shiftLeft_eq]
  have hp : 0 < n := by omega
  by_cases hm : m = 0
  · subst hm
    simp
  have h1 : (m * 2 ^ more) * 2 ^ u ≤ n * 2 ^ (v + more) := by
    rw [Nat.mul_right_comm, Nat.pow_add, ← Nat.mul_assoc]
    exact Nat.mul_le_mul_right _ h
  by_cases hu : u ≤ v + more
  · obtain ⟨E, hE⟩ : ∃ E, v + more = E + u := ⟨v + more - u, by omega⟩
    rw [hE, Nat.pow_add, ← Nat.mul_assoc] at h1
    have h2 := Nat.le_of_mul_le_mul_right h1 (Nat.two_pow_pos u)
    generalize m * 2 ^ more = a at *
    rw [hE, show E + u + 1 = (E + 1) + u by omega, Nat.pow_add 2 (E + 1) u]
    refine Nat.mul_le_mul_right _ ?_
    rw [Nat.pow_succ]
    rcases Nat.lt_or_eq_of_le h2 with h3 | h3
    · have h4 : a / n < 2 ^ E := (Nat.div_lt_iff_lt_mul hp).2 (by rw [Nat.mul_comm]; exact h3)
      have : (a % n != 0).toNat ≤ 1 := by cases (a % n != 0) <;> decide
      omega
    · rw [h3, Nat.mul_div_cancel_left _ hp, Nat.mul_mod_right]
      simp
      omega
  · exfalso
    have h2 : n * 2 ^ (v + more) ≤ n * 2 ^ u := Nat.mul_le_mul_left _ (Nat.pow_le_pow_right (by decide) (by omega))
    have h3 := Nat.le_of_mul_le_mul_right (Nat.le_trans h1 h2) (Nat.two_pow_pos u)
    have h4 : 2 ^ m.log2 ≤ m := Nat.log2_self_le hm
    have h5 : n < 2 ^ (n.log2 + 1) := Nat.lt_log2_self
    have h6 : 2 ^ m.log2 * 2 ^ more ≤ m * 2 ^ more := Nat.mul_le_mul_right _ h4
    rw [← Nat.pow_add] at h6
    have h7 : 2 ^ (n.log2 + 1) ≤ 2 ^ (m.log2 + more) := Nat.pow_le_pow_right (by decide) (by omega)
    omega
theorem fquo_le_one {x y : Nat} (hy : y < 2139095040) (h0 : 0 < y) (h : x ≤ y) : fop .quo .f32 x y ≤ 1065353216 := by
  obtain ⟨m, u, h1, h2⟩ := read_uv (x := x) (by omega)
  obtain ⟨n, v, g1, g2⟩ := read_uv hy
  have hn : n ≠ 0 := by
    intro hn
    subst hn
    have := uv_lt h0
    omega
  show (single.div x y).getD (qn .f32) ≤ _
  unfold Format.div
  rw [h1, g1]
  unfold Datum.quotient
  dsimp only
  rw [if_neg hn, Option.map_some, Option.getD_some]
  show single.nearest (false ^^ false) _ _ ≤ _
  rw [show single.fractionBits + 2 = 25 from rfl]
  obtain ⟨more, hmore⟩ : ∃ more, more = 25 + n.log2 - m.log2 := ⟨_, rfl⟩
  rw [← hmore, Bool.xor_false]
  have hq := quo_uv hn (show m * 2 ^ u ≤ n * 2 ^ v by rw [h2, g2]; exact uv_le h) more hmore
  generalize 2 * ((m <<< more) / n) + ((m <<< more) % n != 0).toNat = Q at *
  rw [show (-149 : Int) + u - (-149 + v) - more - 1 = (-149 - ((v + more + 1 : Nat) : Int)) + ((u + 149 : Nat) : Int) by omega, near_up]
  have := near_le single (n := Q * 2 ^ (u + 149)) (y := 1065353216) (d := v + more + 1) (by
    rw [s_binade, show units 8388608 1065353216 = uv 1065353216 from rfl, uv_one, Nat.pow_add, ← Nat.mul_assoc, Nat.mul_comm (2 ^ 149)]
    exact Nat.mul_le_mul_right _ hq)
  rw [s_least] at this
  exact this
theorem one_le_two : uv 1065353216 + uv 1065353216 = uv 1073741824 := by decide +kernel
/-- 32 bits of a word are all that is read -/
theorem read_mod (x : Nat) : single.read x = single.read (x % 4294967296) := by
  have h1 : single.signWeight = 2147483648 := by decide +kernel
  unfold Format.read
  rw [h1]
  dsimp only
  rw [show x % 4294967296 / 2147483648 % 2 = x / 2147483648 % 2 by omega, show x % 4294967296 % 2147483648 = x % 2147483648 by omega]
theorem fop_mod (op : BinOp) (x y : Nat) : fop op .f32 x y = fop op .f32 x (y % 4294967296) := by
  have h := read_mod y
  have hf : FloatKind.f32.format = single := rfl
  cases op <;> first
    | rfl
    | (show (single.add x y).getD _ = (single.add x _).getD _; unfold Format.add; rw [← h])
    | (show (single.sub x y).getD _ = (single.sub x _).getD _; unfold Format.sub; rw [← h])
    | (show (single.mul x y).getD _ = (single.mul x _).getD _; unfold Format.mul; rw [← h])
    | (show (single.div x y).getD _ = (single.div x _).getD _; unfold Format.div; rw [← h])
/-- a share: between +0 and 1, or -0 -/
def Sh (x : Nat) : Prop := x % 4294967296 ≤ 1065353216 ∨ x % 4294967296 = 2147483648
theorem left_one {x : Nat} (h : Sh x) : fop .sub .f32 1065353216 x ≤ 1065353216 := by
  rw [fop_mod]
  rcases h with h | h
  · exact sub_le (by decide) h
  · rw [h]; decide +kernel
theorem above_one {x : Nat} (h : Sh x) : 1065353216 ≤ fop .add .f32 1065353216 x ∧ fop .add .f32 1065353216 x ≤ 1073741824 := by
  rw [fop_mod]
  rcases h with h | h
  · exact ⟨add_ge (by decide) (by omega) (by decide) (Nat.le_add_right _ _), add_le (by decide) (by omega) (by rw [← one_le_two]; exact Nat.add_le_add_left (uv_le h) _)⟩
  · rw [h]; constructor <;> decide +kernel
theorem factor_le {x : Nat} (h : Sh x) : fop .quo .f32 1065353216 (fop .add .f32 1065353216 x) ≤ 1065353216 := by
  obtain ⟨h1, h2⟩ := above_one h
  exact fquo_le_one (by omega) (by omega) h1
theorem mul_le_one {x y : Nat} (hx : x ≤ 1065353216) (hy : y ≤ 1065353216) : fop .mul .f32 x y ≤ 1065353216 := Nat.le_trans (mul_one_le (by omega) hy) hx
/-- whole numbers as words -/
def fW (n : Nat) : Nat := floatOfInt .f32 n
theorem fW_uv : ∀ n, n ≤ 256 → uv (fW n) = n * 2 ^ 149 ∧ fW n < 2139095040 := by
  have h : ∀ n, n < 257 → uv (fW n) = n * 2 ^ 149 ∧ fW n < 2139095040 := by decide +kernel
  intro n hn
  exact h n (by omega)
theorem order_mod (x y : Nat) : single.order x y = single.order (x % 4294967296) y := by unfold Format.order; rw [← read_mod]
theorem share_word {x : Nat} (h1 : single.order x 0 = some .gt ∨ single.order x 0 = some .eq) (h2 : single.order x 1065353216 = some .lt ∨ single.order x 1065353216 = some .eq) : Sh x := by
  rw [order_mod] at h1 h2
  unfold Sh
  have hb : x % 4294967296 < 4294967296 := Nat.mod_lt _ (by decide)
  generalize x % 4294967296 = y at *
  clear x
  have hsw : single.signWeight = 2147483648 := by decide +kernel
  by_cases c1 : y < 2147483648
  · by_cases c2 : y < 2139095040
    · rw [order_pos single (by rw [s_inf]; exact c2) (by rw [s_inf]; decide)] at h2
      rcases h2 with h2 | h2
      · injection h2 with h2
        exact .inl (Nat.le_of_lt (Nat.compare_eq_lt.1 h2))
      · injection h2 with h2
        exact .inl (Nat.le_of_eq (Nat.compare_eq_eq.1 h2))
    · exfalso
      by_cases c3 : y = 2139095040
      · subst c3
        have : single.order 2139095040 1065353216 = some .gt := by decide +kernel
        rw [this] at h2
        rcases h2 with h2 | h2 <;> cases h2
      · obtain ⟨s, t, hn⟩ := read_nan (f := single) (x := y) (by rw [hsw, s_inf]; omega) (by decide +kernel)
        unfold Format.order at h2
        rw [hn] at h2
        rcases h2 with h2 | h2 <;> cases h2
  · obtain ⟨r, hr⟩ : ∃ r, y = 2147483648 + r := ⟨y - 2147483648, by omega⟩
    by_cases c2 : r < 2139095040
    · by_cases c0 : r = 0
      · right; omega
      · exfalso
        have hw : single.word true r = y := by unfold Format.word; rw [hsw, if_pos rfl, hr]
        have hr1 := read_word single true (rung := r) (by rw [s_inf]; exact c2)
        rw [hw, s_binade] at hr1
        have hz : single.read 0 = .number false 0 (-149) := by decide +kernel
        have : single.order y 0 = some .lt := by
          unfold Format.order
          rw [hr1, hz]
          have key : ∀ (m : Nat) (e : Int), m ≠ 0 → Datum.order (.number true m e) (.number false 0 (-149)) = some .lt := by
            intro m e hm
            unfold Datum.order
            dsimp only
            have e1 := signed_natAbs true m (e - min e (-149)).toNat
            have e2 : signed false 0 (-149 - min e (-149)).toNat = 0 := by unfold signed; simp
            rw [e2]
            have h3 : signed true m (e - min e (-149)).toNat < 0 := by
              unfold signed
              rw [if_pos rfl, Nat.shiftLeft_eq]
              have := Nat.mul_pos (show 0 < m by omega) (Nat.two_pow_pos (e - min e (-149)).toNat)
              omega
            congr 1
            simp only [compare, compareOfLessAndEq, h3, if_true]
          split
          · exact key _ _ c0
          · exact key _ _ (by omega)
        rw [this] at h1
        rcases h1 with h1 | h1 <;> cases h1
    · exfalso
      by_cases c3 : r = 2139095040
      · subst c3; subst hr
        have : single.order 4286578688 0 = some .lt := by decide +kernel
        rw [show 2147483648 + 2139095040 = 4286578688 from rfl, this] at h1
        rcases h1 with h1 | h1 <;> cases h1
      · obtain ⟨s, t, hn⟩ := read_nan (f := single) (x := y) (by rw [hsw, s_inf]; omega) (by decide +kernel)
        unfold Format.order at h1
        rw [hn] at h1
        rcases h1 with h1 | h1 <;> cases h1
end Go

namespace Go
open Ieee

theorem fnan_pos {x : Nat} (h : x < double.infRung) : fnan .f64 x = false := by
  obtain ⟨m, e, h1, _⟩ := read_pos double h
  unfold fnan
  show (double.read x).isNaN = false
  rw [h1]; rfl
theorem FS.eq {k : FloatKind} {r v : Nat} (h : FS k r v) (hv : fnan k v = false) : r = v := by
  rcases h with h | ⟨_, h⟩
  · exact h
  · rw [hv] at h; cases h

/-- e and x with number = x * 2^e, x from 3/4 on and below 3/2 -/
def lgE (x : Nat) : Int := ((x : Int) - 4604930618986332160) / 4503599627370496
def lgX (x : Nat) : Nat := (4604930618986332160 + ((x : Int) - 4604930618986332160) % 4503599627370496).toNat
theorem lg_uniq {x0 x : Nat} {e : Int} (h : (x : Int) = x0 - e * 4503599627370496) (h1 : 4604930618986332160 ≤ x) (h2 : x < 4609434218613702656) : x = lgX x0 ∧ e = lgE x0 := by
  unfold lgX lgE; omega
theorem lgX_bd (x0 : Nat) : 4604930618986332160 ≤ lgX x0 ∧ lgX x0 < 4609434218613702656 := by unfold lgX; omega

def fqn (u : Nat) : Nat → Nat
  | 0 => 0
  | i + 1 => fop .add .f64 (fop .quo .f64 4607182418800017408 (floatOfInt .f64 (25 - 2 * (i : Int)))) (fop .mul .f64 u (fqn u i))
def fls (x : Nat) : Nat := fop .quo .f64 (fop .sub .f64 x 4607182418800017408) (fop .add .f64 x 4607182418800017408)
def flog (x0 : Nat) : Nat :=
  fop .add .f64 (fop .mul .f64 4611686018427387904 (fop .mul .f64 (fls (lgX x0)) (fqn (fop .mul .f64 (fls (lgX x0)) (fls (lgX x0))) 13))) (fop .mul .f64 (floatOfInt .f64 (lgE x0)) 4604418534313441775)

/-! ### bounds -/
theorem mag_fop {op : BinOp} {x y : Nat} {d : Datum} {k : Int} (h : (match op with | .add => (double.read x).sum (double.read y) | .sub => (double.read x).sum (double.read y).opposite | .mul => (double.read x).product (double.read y) | .quo => (double.read x).quotient 54 (double.read y) | _ => none) = some d) (hm : Mag k d) (h1 : -1021 ≤ k) (h2 : k ≤ 1023) :
    Mag (k + 1) (double.read (fop op .f64 x y)) := by
  have : fop op .f64 x y = double.write d := by
    cases op <;> simp only at h <;> first | (cases h; done) | skip
    all_goals
      unfold fop floatBits
      dsimp only
    · show ((double.add x y)).getD _ = _
      unfold Format.add; rw [h]; rfl
    · show ((double.sub x y)).getD _ = _
      unfold Format.sub; rw [h]; rfl
    · show ((double.mul x y)).getD _ = _
      unfold Format.mul; rw [h]; rfl
    · show ((double.div x y)).getD _ = _
      unfold Format.div
      show (Option.map double.write ((double.read x).quotient 54 (double.read y))).getD _ = _
      rw [h]; rfl
  rw [this]
  exact mag_write64 hm h1 h2
theorem mag_add {x y : Nat} {k : Int} (hx : Mag k (double.read x)) (hy : Mag k (double.read y)) (h1 : -1021 ≤ k + 1) (h2 : k + 1 ≤ 1023) : Mag (k + 2) (double.read (fop .add .f64 x y)) := by
  obtain ⟨d, h, hm⟩ := mag_sum hx hy
  have := mag_fop (op := .add) h hm h1 h2
  rwa [show k + 1 + 1 = k + 2 by omega] at this
theorem mag_mul {x y : Nat} {j k : Int} (hx : Mag j (double.read x)) (hy : Mag k (double.read y)) (h1 : -1021 ≤ j + k) (h2 : j + k ≤ 1023) : Mag (j + k + 1) (double.read (fop .mul .f64 x y)) := by
  obtain ⟨d, h, hm⟩ := mag_product hx hy
  exact mag_fop (op := .mul) h hm h1 h2
theorem mag_quo {x y : Nat} {j k : Int} (hx : Mag j (double.read x)) (hy : Big k (double.read y)) (h1 : -1021 ≤ j - k) (h2 : j - k ≤ 1023) : Mag (j - k + 1) (double.read (fop .quo .f64 x y)) := by
  obtain ⟨d, h, hm⟩ := mag_quotient 54 hx hy
  exact mag_fop (op := .quo) h hm h1 h2

/-- what a double of no sign reads as, told by its word -/
theorem read_at {x : Nat} {q : Nat} (h0 : (q + 1) * 4503599627370496 ≤ x) (h1 : x < (q + 2) * 4503599627370496) (hx : x < double.infRung) :
    double.read x = .number false (x - q * 4503599627370496) (-1074 + q) := by
  have hb : double.binade = 4503599627370496 := by decide +kernel
  have hlp : double.leastPlace = -1074 := by decide +kernel
  have h := read_word double false hx
  rw [word_pos, hb, hlp, if_neg (by omega)] at h
  rw [h]
  have e1 : x / 4503599627370496 = q + 1 := by omega
  have e2 : 4503599627370496 + x % 4503599627370496 = x - q * 4503599627370496 := by omega
  rw [e1, e2]
  congr 1
theorem read_one : double.read 4607182418800017408 = .number false 4503599627370496 (-52) := by decide +kernel
theorem inf64 : double.infRung = 9218868437227405312 := by decide +kernel

/-- x - 1 and x + 1 for x from 3/4 on and below 3/2 -/
theorem mag_less {x : Nat} (h1 : 4604930618986332160 ≤ x) (h2 : x < 4609434218613702656) : Mag 0 (double.read (fop .sub .f64 x 4607182418800017408)) := by
  have key : ∀ (m : Nat) (e : Int), (e = -53 ∧ 6755399441055744 ≤ m ∧ m < 9007199254740992) ∨ (e = -52 ∧ 4503599627370496 ≤ m ∧ m < 6755399441055744) → double.read x = .number false m e → Mag 0 (double.read (fop .sub .f64 x 4607182418800017408)) := by
    intro m e hme hr
    refine mag_fop (x := x) (y := 4607182418800017408) (k := -1) (op := .sub) (d := _) (by dsimp only; rw [hr, read_one]; rfl) ?_ (by decide) (by decide)
    show ((signed false m (e - min e (-52)).toNat + signed true 4503599627370496 (-52 - min e (-52)).toNat).natAbs = 0 ∨ min e (-52) + ((signed false m (e - min e (-52)).toNat + signed true 4503599627370496 (-52 - min e (-52)).toNat).natAbs.log2 : Int) < -1)
    have hlog : ∀ n : Nat, n < 4503599627370496 → n = 0 ∨ n.log2 < 52 := by
      intro n hn
      by_cases h0 : n = 0
      · exact .inl h0
      · exact .inr ((Nat.log2_lt h0).2 (by omega))
    have hlog2 : ∀ n : Nat, n < 2251799813685248 → n = 0 ∨ n.log2 < 51 := by
      intro n hn
      by_cases h0 : n = 0
      · exact .inl h0
      · exact .inr ((Nat.log2_lt h0).2 (by omega))
    rcases hme with ⟨rfl, ha, hb⟩ | ⟨rfl, ha, hb⟩
    · have e1 : (-53 - min (-53) (-52) : Int).toNat = 0 := by decide
      have e2 : (-52 - min (-53) (-52) : Int).toNat = 1 := by decide
      have e3 : min (-53) (-52 : Int) = -53 := by decide
      rw [e1, e2, e3]
      have s1 : signed false m 0 = (m : Int) := by unfold signed; simp
      have s2 : signed true 4503599627370496 1 = -9007199254740992 := by decide +kernel
      rw [s1, s2]
      rcases hlog ((m : Int) + -9007199254740992).natAbs (by omega) with h | h
      · exact .inl h
      · exact .inr (by omega)
    · have e1 : (-52 - min (-52) (-52) : Int).toNat = 0 := by decide
      have e3 : min (-52) (-52 : Int) = -52 := by decide
      rw [e1, e3]
      have s1 : signed false m 0 = (m : Int) := by unfold signed; simp
      have s2 : signed true 4503599627370496 0 = -4503599627370496 := by decide +kernel
      rw [s1, s2]
      rcases hlog2 ((m : Int) + -4503599627370496).natAbs (by omega) with h | h
      · exact .inl h
      · exact .inr (by omega)
  have hinf : x < double.infRung := by rw [inf64]; omega
  by_cases h : x < 4607182418800017408
  · refine key _ _ (.inl ⟨?_, ?_, ?_⟩) (read_at (q := 1021) (by omega) (by omega) hinf)
    · decide
    · omega
    · omega
  · refine key _ _ (.inr ⟨?_, ?_, ?_⟩) (read_at (q := 1022) (by omega) (by omega) hinf)
    · decide
    · omega
    · omega

theorem cut_ge (neg : Bool) (n drop : Nat) : n / 2 ^ drop ≤ Toward.even.cut neg n drop := by
  unfold Toward.cut
  dsimp only
  rw [Nat.one_shiftLeft]
  by_cases hd : drop ≤ n.log2 + 2
  · rw [Nat.min_eq_left hd]; exact Nat.le_add_right _ _
  · have h0 : n < 2 ^ (n.log2 + 1) := Nat.lt_log2_self
    have h1 : 2 ^ (n.log2 + 1) ≤ 2 ^ drop := Nat.pow_le_pow_right (by decide) (by omega)
    rw [Nat.div_eq_of_lt (show n < 2 ^ drop by omega)]
    exact Nat.zero_le _

/-- ROUNDING: what is at least 2 ^ k stays so -/
theorem big_write64 {d : Datum} {k : Int} (h : Big k d) (hm : Mag 1023 d) (hk : -1022 ≤ k) : Big k (double.read (double.write d)) := by
  cases d with
  | infinity s => exact h.elim
  | nan s t => exact h.elim
  | number neg mag place =>
    obtain ⟨h0, h1⟩ := h
    have hk2 : place + mag.log2 < 1023 := by
      rcases hm with h | h
      · exact absurd h h0
      · exact h
    have hb : double.binade = 2 ^ 52 := rfl
    have hB : 0 < double.binade := Nat.two_pow_pos _
    have hlp : double.leastPlace = -1074 := by decide +kernel
    have hfb : double.fractionBits = 52 := rfl
    rw [write_number double neg mag place h0]
    have hr := rungOf_le double neg mag place h0
    have hmax : max (place + mag.log2 - double.fractionBits) double.leastPlace = place + mag.log2 - 52 := by rw [hfb, hlp]; omega
    rw [hmax, hlp] at hr
    have hlo : ((place + mag.log2 - 52 - -1074).toNat + 1) * double.binade ≤ rungOf double neg mag place := by
      unfold rungOf
      dsimp only
      rw [hmax, hlp, Nat.add_mul, Nat.one_mul]
      refine Nat.add_le_add_left ?_ _
      refine Nat.le_trans ?_ (cut_ge _ _ _)
      rw [hb, Nat.le_div_iff_mul_le (Nat.two_pow_pos _), ← Nat.pow_add, Nat.shiftLeft_eq]
      have h2 : 2 ^ mag.log2 ≤ mag := Nat.log2_self_le h0
      refine Nat.le_trans ?_ (Nat.mul_le_mul_right _ h2)
      rw [← Nat.pow_add]
      exact Nat.pow_le_pow_right (by decide) (by omega)
    generalize rungOf double neg mag place = rung at *
    have hinf : rung < double.infRung := by
      refine Nat.lt_of_le_of_lt hr ?_
      have : double.infRung = 2047 * double.binade := rfl
      rw [this]
      exact Nat.mul_lt_mul_of_pos_right (by omega) hB
    have hge : double.binade ≤ rung := Nat.le_trans (Nat.le_mul_of_pos_left _ (by omega)) hlo
    rw [Nat.min_eq_left (by omega), read_word double neg hinf, if_neg (by omega), hlp]
    have hq : (place + mag.log2 - 52 - -1074).toNat + 1 ≤ rung / double.binade := (Nat.le_div_iff_mul_le hB).2 hlo
    refine ⟨by omega, ?_⟩
    have hl : 52 ≤ (double.binade + rung % double.binade).log2 := (Nat.le_log2 (by omega)).2 (by rw [hb]; exact Nat.le_add_right _ _)
    generalize (double.binade + rung % double.binade).log2 = l at *
    generalize rung / double.binade = q at *
    omega

theorem big_more {x : Nat} (h1 : 4604930618986332160 ≤ x) (h2 : x < 4609434218613702656) : Big 0 (double.read (fop .add .f64 x 4607182418800017408)) := by
  have key : ∀ (m : Nat) (e : Int), (e = -53 ∧ 6755399441055744 ≤ m ∧ m < 9007199254740992) ∨ (e = -52 ∧ 4503599627370496 ≤ m ∧ m < 6755399441055744) → double.read x = .number false m e → Big 0 (double.read (fop .add .f64 x 4607182418800017408)) := by
    intro m e hme hr
    have hmag : Mag 2 (double.read x) := by
      rw [hr]
      refine .inr ?_
      have : m.log2 < 53 := (Nat.log2_lt (by omega)).2 (by omega)
      omega
    have hone : Mag 2 (double.read 4607182418800017408) := by rw [read_one]; exact .inr (by decide +kernel)
    obtain ⟨d, hd, hdm⟩ := mag_sum hmag hone
    have hf : fop .add .f64 x 4607182418800017408 = double.write d := by
      unfold fop floatBits
      dsimp only
      show ((double.add x 4607182418800017408)).getD _ = _
      unfold Format.add; rw [hd]; rfl
    rw [hf]
    refine big_write64 ?_ (mag_mono hdm (by decide)) (by decide)
    rw [hr, read_one] at hd
    have hd2 : d = .number (if signed false m (e - min e (-52)).toNat + signed false 4503599627370496 (-52 - min e (-52)).toNat = 0 then false && false else decide (signed false m (e - min e (-52)).toNat + signed false 4503599627370496 (-52 - min e (-52)).toNat < 0))
        (signed false m (e - min e (-52)).toNat + signed false 4503599627370496 (-52 - min e (-52)).toNat).natAbs (min e (-52)) := by
      injection hd with hd
      rw [← hd]
    rw [hd2]
    have hge : ∀ n : Nat, ∀ k : Nat, 2 ^ k ≤ n → n ≠ 0 ∧ k ≤ n.log2 := fun n k h => by
      have hp : 0 < 2 ^ k := Nat.two_pow_pos k
      exact ⟨by omega, (Nat.le_log2 (by omega)).2 h⟩
    rcases hme with ⟨rfl, ha, hb⟩ | ⟨rfl, ha, hb⟩
    · have e1 : (-53 - min (-53) (-52) : Int).toNat = 0 := by decide
      have e2 : (-52 - min (-53) (-52) : Int).toNat = 1 := by decide
      have e3 : min (-53) (-52 : Int) = -53 := by decide
      rw [e1, e2, e3]
      have s1 : signed false m 0 = (m : Int) := by unfold signed; simp
      have s2 : signed false 4503599627370496 1 = 9007199254740992 := by decide +kernel
      rw [s1, s2]
      have := hge ((m : Int) + 9007199254740992).natAbs 53 (by simp only [Nat.reducePow]; omega)
      exact ⟨this.1, by have := this.2; omega⟩
    · have e1 : (-52 - min (-52) (-52) : Int).toNat = 0 := by decide
      have e3 : min (-52) (-52 : Int) = -52 := by decide
      rw [e1, e3]
      have s1 : signed false m 0 = (m : Int) := by unfold signed; simp
      have s2 : signed false 4503599627370496 0 = 4503599627370496 := by decide +kernel
      rw [s1, s2]
      have := hge ((m : Int) + 4503599627370496).natAbs 52 (by simp only [Nat.reducePow]; omega)
      exact ⟨this.1, by have := this.2; omega⟩
  have hinf : x < double.infRung := by rw [inf64]; omega
  by_cases h : x < 4607182418800017408
  · refine key _ _ (.inl ⟨?_, ?_, ?_⟩) (read_at (q := 1021) (by omega) (by omega) hinf)
    · decide
    · omega
    · omega
  · refine key _ _ (.inr ⟨?_, ?_, ?_⟩) (read_at (q := 1022) (by omega) (by omega) hinf)
    · decide
    · omega
    · omega

theorem mag_fls {x : Nat} (h1 : 4604930618986332160 ≤ x) (h2 : x < 4609434218613702656) : Mag 1 (double.read (fls x)) :=
  mag_quo (mag_less h1 h2) (big_more h1 h2) (by decide) (by decide)
/-- a whole number as a double -/
theorem mag_int {n : Int} {k : Nat} (h : n.natAbs < 2 ^ k) (hk : k ≤ 1000) : Mag (k + 1) (double.read (floatOfInt .f64 n)) := by
  refine mag_write64 (d := .number (n < 0) n.natAbs 0) (k := (k : Int)) ?_ (by omega) (by omega)
  by_cases h0 : n.natAbs = 0
  · exact .inl h0
  · exact .inr (by have := (Nat.log2_lt h0).2 h; omega)
theorem mag_inv (i : Nat) (hi : i < 13) : Mag 2 (double.read (fop .quo .f64 4607182418800017408 (floatOfInt .f64 (25 - 2 * (i : Int))))) := by
  have h : ∀ i : Fin 13, (match double.read (fop .quo .f64 4607182418800017408 (floatOfInt .f64 (25 - 2 * ((i : Nat) : Int)))) with | .number _ m e => decide (m = 0 ∨ e + m.log2 < 2) | _ => false) = true := by decide +kernel
  have h2 := h ⟨i, hi⟩
  dsimp only at h2
  cases hd : double.read (fop .quo .f64 4607182418800017408 (floatOfInt .f64 (25 - 2 * (i : Int)))) with
  | number s m e => rw [hd] at h2; exact of_decide_eq_true (p := m = 0 ∨ e + (m.log2 : Int) < 2) h2
  | infinity s => rw [hd] at h2; cases h2
  | nan s t => rw [hd] at h2; cases h2
theorem mag_fqn {u : Nat} (hu : Mag 3 (double.read u)) : ∀ i : Nat, i ≤ 13 → Mag (6 * i + 2) (double.read (fqn u i))
  | 0, _ => by
    have : double.read 0 = .number false 0 (-1074) := by decide +kernel
    show Mag _ (double.read 0)
    rw [this]; exact .inl rfl
  | i + 1, hi => by
    have h1 := mag_fqn hu i (by omega)
    have h2 := mag_mul hu h1 (by omega) (by omega)
    have h3 := mag_inv i (by omega)
    have h4 := mag_add (mag_mono h3 (show (2 : Int) ≤ 3 + (6 * i + 2) + 1 by omega)) h2 (by omega) (by omega)
    exact mag_mono h4 (by push_cast; omega)
theorem mag_flog {x0 : Nat} (he : (lgE x0).natAbs < 256) : Mag 110 (double.read (flog x0)) := by
  obtain ⟨b1, b2⟩ := lgX_bd x0
  have hs := mag_fls b1 b2
  have hu := mag_mul hs hs (by decide) (by decide)
  have hq := mag_fqn hu 13 (by decide)
  have hsq := mag_mul hs hq (by decide) (by decide)
  have htwo : Mag 2 (double.read 4611686018427387904) := by rw [read_two]; exact .inr (by decide +kernel)
  have h2 := mag_mul htwo hsq (by decide) (by decide)
  have hE := mag_int (n := lgE x0) (k := 8) he (by decide)
  have hc : Mag 1 (double.read 4604418534313441775) := by
    have : double.read 4604418534313441775 = .number false 6243314768165359 (-53) := by decide +kernel
    rw [this]; exact .inr (by decide +kernel)
  have h3 := mag_mul hE hc (by decide) (by decide)
  have h4 := mag_add h2 (mag_mono h3 (by decide)) (by decide) (by decide)
  exact mag_mono h4 (by decide)
end Go

namespace Go
open Ieee

/-- not above 2 ^ k -/
def Mle (k : Int) (d : Datum) : Prop := Mag k d ∨ ∃ (s : Bool) (l : Nat) (e : Int), d = .number s (2 ^ l) e ∧ e + (l : Int) = k
theorem Mle.units {k : Int} {s : Bool} {m : Nat} {e b : Int} (h : Mle k (.number s m e)) (hb : b ≤ e) : m * 2 ^ (e - b).toNat ≤ 2 ^ (k - b).toNat := by
  rcases h with h | ⟨s', l, e', h, he⟩
  · exact Nat.le_of_lt (shl_lt m _ e b k hb rfl h)
  · injection h with _ h1 h2
    subst h1; subst h2
    rw [← Nat.pow_add]
    exact Nat.pow_le_pow_right (by decide) (by omega)
theorem Mle.of_units {k b : Int} {s : Bool} {n : Nat} (h : n ≤ 2 ^ (k - b).toNat) (hb : b ≤ k) : Mle k (.number s n b) := by
  rcases Nat.lt_or_eq_of_le h with h | h
  · refine .inl ?_
    by_cases h0 : n = 0
    · exact .inl h0
    · exact .inr (by have := (Nat.log2_lt h0).2 h; omega)
  · exact .inr ⟨s, (k - b).toNat, b, by rw [h], by omega⟩
theorem Mle.number {k : Int} {d : Datum} (h : Mle k d) : ∃ s m e, d = .number s m e := by
  rcases h with h | ⟨s, l, e, h, _⟩
  · cases d with
    | number s m e => exact ⟨s, m, e, rfl⟩
    | infinity s => exact h.elim
    | nan s t => exact h.elim
  · exact ⟨_, _, _, h⟩
theorem Mle.mag {k : Int} {d : Datum} (h : Mle k d) : Mag (k + 1) d := by
  rcases h with h | ⟨s, l, e, rfl, h⟩
  · exact mag_mono h (by omega)
  · refine .inr ?_
    rw [Nat.log2_two_pow]; omega
theorem Mle.mono {j k : Int} {d : Datum} (h : Mle j d) (hk : j ≤ k) : Mle k d := by
  rcases Int.lt_or_eq_of_le hk with h1 | h1
  · exact .inl (mag_mono h.mag (by omega))
  · exact h1 ▸ h
theorem mle_product {a b : Datum} {j k : Int} (ha : Mle j a) (hb : Mle k b) : ∃ d, a.product b = some d ∧ Mle (j + k) d := by
  rcases ha with ha | ⟨s, l, e, rfl, he⟩
  · rcases hb with hb | ⟨t, l, e, rfl, he⟩
    · obtain ⟨d, h1, h2⟩ := mag_product ha hb
      exact ⟨d, h1, .inl h2⟩
    · obtain ⟨s, m, i, rfl⟩ := Mle.number (.inl ha)
      refine ⟨_, rfl, .inl ?_⟩
      by_cases hm : m = 0
      · subst hm; exact .inl (Nat.zero_mul _)
      · have h1 : i + m.log2 < j := by rcases ha with h | h; exact absurd h hm; exact h
        refine .inr ?_
        rw [log2_mul_pow m l hm]; push_cast; omega
  · rcases hb with hb | ⟨t, l2, e2, rfl, he2⟩
    · obtain ⟨t, n, i, rfl⟩ := Mle.number (.inl hb)
      refine ⟨_, rfl, .inl ?_⟩
      by_cases hn : n = 0
      · subst hn; exact .inl (Nat.mul_zero _)
      · have h1 : i + n.log2 < k := by rcases hb with h | h; exact absurd h hn; exact h
        refine .inr ?_
        rw [Nat.mul_comm, log2_mul_pow n l hn]; push_cast; omega
    · exact ⟨_, rfl, .inr ⟨_, l + l2, e + e2, by rw [Nat.pow_add], by push_cast; omega⟩⟩
theorem mle_sum {a b : Datum} {k : Int} (ha : Mle k a) (hb : Mle k b) : ∃ d, a.sum b = some d ∧ Mle (k + 1) d := by
  obtain ⟨s, m, i, rfl⟩ := ha.number
  obtain ⟨t, n, e, rfl⟩ := hb.number
  refine ⟨_, rfl, ?_⟩
  have h1 := ha.units (b := min i e) (Int.min_le_left _ _)
  have h2 := hb.units (b := min i e) (Int.min_le_right _ _)
  have e1 := signed_natAbs s m (i - min i e).toNat
  have e2 := signed_natAbs t n (e - min i e).toNat
  generalize signed s m (i - min i e).toNat = S at *
  generalize signed t n (e - min i e).toNat = T at *
  have h3 : (S + T).natAbs ≤ S.natAbs + T.natAbs := Int.natAbs_add_le _ _
  show Mle (k + 1) (.number _ (S + T).natAbs (min i e))
  by_cases hk : min i e ≤ k
  · refine Mle.of_units ?_ (by omega)
    have : (k + 1 - min i e).toNat = (k - min i e).toNat + 1 := by omega
    rw [this, Nat.pow_succ]; omega
  · have hz : (k - min i e).toNat = 0 := by omega
    have z : ∀ {s m e}, Mle k (.number s m e) → k < e → m = 0 := by
      intro s m e h he
      rcases h with h | ⟨_, l, e', h, h'⟩
      · rcases h with h | h
        · exact h
        · omega
      · injection h with _ _ h2
        omega
    have z1 := z ha (by omega)
    have z2 := z hb (by omega)
    subst z1; subst z2
    rw [Nat.zero_mul] at e1 e2
    exact .inl (.inl (by omega))
theorem Mle.opposite {a : Datum} {k : Int} (h : Mle k a) : Mle k a.opposite := by
  rcases h with h | ⟨s, l, e, rfl, he⟩
  · exact .inl (mag_opposite h)
  · exact .inr ⟨_, l, e, rfl, he⟩

theorem back_place (k : Int) (h : -1021 ≤ k) : (-1074 : Int) + (((k - 52 - -1074).toNat + 1 - 1 : Nat) : Int) = k - 52 := by omega
/-- ROUNDING keeps it -/
theorem mle_write64 {d : Datum} {k : Int} (h : Mle k d) (h1 : -1021 ≤ k) (h2 : k ≤ 1022) : Mle k (double.read (double.write d)) := by
  have hB : 0 < double.binade := Nat.two_pow_pos _
  have hlp : double.leastPlace = -1074 := by decide +kernel
  have hfb : double.fractionBits = 52 := rfl
  have hinfB : double.infRung = 2047 * double.binade := rfl
  rcases h with h | ⟨s, l, e, rfl, he⟩
  · cases d with
    | infinity s => exact h.elim
    | nan s t => exact h.elim
    | number neg mag place =>
      by_cases h0 : mag = 0
      · subst h0
        have hz : double.write (.number neg 0 place) = double.word neg 0 := by
          show double.nearest neg 0 place = _
          unfold Format.nearest; rw [if_pos rfl]
        rw [hz, read_word double neg (infRung_pos double (by decide +kernel)), if_pos hB]
        exact .inl (.inl rfl)
      · have hk : place + mag.log2 < k := by
          rcases h with h | h
          · exact absurd h h0
          · exact h
        rw [write_number double neg mag place h0]
        have hr := rungOf_le double neg mag place h0
        have hmax : max (place + mag.log2 - double.fractionBits) double.leastPlace ≤ k - 53 := by rw [hfb, hlp]; omega
        have hmax2 : double.leastPlace ≤ max (place + mag.log2 - double.fractionBits) double.leastPlace := Int.le_max_right _ _
        generalize max (place + mag.log2 - double.fractionBits) double.leastPlace = last at *
        generalize rungOf double neg mag place = rung at *
        rw [hlp] at hr hmax2
        have hinf : rung < double.infRung := by
          refine Nat.lt_of_le_of_lt hr ?_
          rw [hinfB]
          exact Nat.mul_lt_mul_of_pos_right (by omega) hB
        rw [Nat.min_eq_left (by omega), read_word double neg hinf, hlp]
        have hq : rung / double.binade ≤ (last - -1074).toNat + 2 := (Nat.div_le_iff_le_mul_add_pred hB).2 (by rw [Nat.mul_comm]; omega)
        have hd := Nat.div_add_mod rung double.binade
        have hm := Nat.mod_lt rung hB
        split
        · rename_i hs
          refine .inl ?_
          by_cases hz : rung = 0
          · exact .inl hz
          · have := (Nat.log2_lt hz).2 (show rung < 2 ^ 52 from hs)
            exact .inr (by omega)
        · rename_i hs
          by_cases hqe : rung / double.binade = (last - -1074).toNat + 2 ∧ last = k - 53
          · obtain ⟨hq1, hq2⟩ := hqe
            have hz : rung % double.binade = 0 := by
              rw [hq1, Nat.mul_comm] at hd; omega
            rw [hz, hq1]
            exact .inr ⟨neg, 52, _, rfl, by push_cast; omega⟩
          · refine .inl (.inr ?_)
            have hl : (double.binade + rung % double.binade).log2 < 53 := (Nat.log2_lt (by omega)).2 (by show _ < 2 ^ 53; have : double.binade = 2 ^ 52 := rfl; omega)
            generalize (double.binade + rung % double.binade).log2 = L at *
            have h1q : 1 ≤ rung / double.binade := (Nat.le_div_iff_mul_le hB).2 (by omega)
            generalize rung / double.binade = Q at *
            omega
  · have e1 : double.write (.number s (2 ^ l) e) = double.write (.number s (2 ^ 52) (k - 52)) := by
      rw [write_nearest, write_nearest]
      have a := nearest_scale double s 1 l k
      have b := nearest_scale double s 1 52 k
      rw [Nat.one_mul] at a b
      have : e = k - (l : Int) := by omega
      rw [this, a]
      exact b.symm
    rw [e1]
    have hle : (k - 52 - -1074).toNat * double.binade + 2 ^ 52 < double.infRung := by
      have hbb : (2 : Nat) ^ 52 = double.binade := rfl
      rw [hinfB, hbb]
      have : ((k - 52 - -1074).toNat + 1) * double.binade < 2047 * double.binade := Nat.mul_lt_mul_of_pos_right (by omega) hB
      rw [Nat.add_mul, Nat.one_mul] at this
      exact this
    have hw := write_whole double s (2 ^ 52) (k - 52) (Nat.le_refl _) (by show 2 ^ 52 < 2 * 2 ^ 52; omega) (by rw [hlp]; omega) (by rw [hlp]; exact hle)
    rw [hw, hlp, read_word double s hle]
    have hge : ¬ (k - 52 - -1074).toNat * double.binade + 2 ^ 52 < double.binade := by
      have hbb : (2 : Nat) ^ 52 = double.binade := rfl
      rw [hbb]; omega
    rw [if_neg hge]
    refine .inr ⟨s, 52, k - 52, ?_, by push_cast; omega⟩
    have hbb : (2 : Nat) ^ 52 = double.binade := rfl
    rw [hlp, hbb]
    have m0 : ((k - 52 - -1074).toNat * double.binade + double.binade) % double.binade = 0 := by
      rw [Nat.add_mod_right, Nat.mul_mod_left]
    have d0 : ((k - 52 - -1074).toNat * double.binade + double.binade) / double.binade = (k - 52 - -1074).toNat + 1 := by
      rw [Nat.add_div_right _ hB, Nat.mul_div_cancel _ hB]
    rw [m0, d0, back_place k h1, Nat.add_zero]
end Go

namespace Go
open Ieee

/-- neither an infinity nor a NaN -/
def ffin (k : FloatKind) (x : Nat) : Bool := k.format.read x matches .number ..
theorem ffin_number {k : FloatKind} {x : Nat} (h : ffin k x = true) : ∃ s m e, k.format.read x = .number s m e := by
  unfold ffin at h
  cases hr : k.format.read x with
  | number s m e => exact ⟨s, m, e, rfl⟩
  | infinity s => rw [hr] at h; cases h
  | nan s t => rw [hr] at h; cases h
theorem ffin_nan {k : FloatKind} {x : Nat} (h : ffin k x = true) : fnan k x = false := by
  obtain ⟨s, m, e, hr⟩ := ffin_number h
  unfold fnan; rw [hr]; rfl
theorem inf_of {k : FloatKind} {x : Nat} (h : ffin k x = false) (hn : fnan k x = false) : ∃ s, k.format.read x = .infinity s := by
  unfold ffin at h; unfold fnan at hn
  cases hr : k.format.read x with
  | number s m e => rw [hr] at h; cases h
  | infinity s => exact ⟨s, rfl⟩
  | nan s t => rw [hr] at hn; cases hn

theorem signed_not (s : Bool) (m u : Nat) : signed s m u + signed (!s) m u = 0 := by
  unfold signed; cases s <;> simp <;> omega

/-- what is taken from itself: zero for a finite number, a NaN otherwise -/
theorem fop_sub_self (k : FloatKind) (x : Nat) : fop .sub k x x = if ffin k x then 0 else qn k := by
  cases h : ffin k x
  · unfold fop floatBits
    dsimp only
    cases hn : fnan k x
    · obtain ⟨s, hr⟩ := inf_of h hn
      unfold Format.sub
      rw [hr]
      cases s <;> rfl
    · obtain ⟨s, t, hr⟩ := fnan_read hn
      unfold Format.sub; rw [hr]; rfl
  · obtain ⟨s, m, e, hr⟩ := ffin_number h
    unfold fop floatBits
    dsimp only
    unfold Format.sub
    rw [hr]
    have : (Datum.number s m e).sum (Datum.number s m e).opposite = some (.number false 0 e) := by
      show some (Datum.number _ _ _) = _
      have hz : signed s m (e - min e e).toNat + signed (!s) m (e - min e e).toNat = 0 := signed_not _ _ _
      rw [hz]
      simp
    rw [this]
    cases k <;> rfl
theorem order_zero_zero (k : FloatKind) : k.format.order 0 0 = some .eq := by cases k <;> decide +kernel
theorem sub_self_eq0 (k : FloatKind) (x : Nat) {r : Nat} (hr : FS k r (fop .sub k x x)) : (k.format.order r 0 == some .eq) = ffin k x := by
  rw [order_same hr (FS.refl k 0), fop_sub_self]
  cases h : ffin k x
  · rw [if_neg (by decide), order_nan_l (fnan_qn k)]; rfl
  · rw [if_pos rfl, order_zero_zero]; rfl
theorem ffin_same {k : FloatKind} {x y : Nat} (h : FS k x y) : ffin k x = ffin k y := by
  rcases h with rfl | ⟨a, b⟩
  · rfl
  · cases hx : ffin k x
    · cases hy : ffin k y
      · rfl
      · rw [ffin_nan hy] at b; cases b
    · rw [ffin_nan hx] at a; cases a

def dabs : Datum → Datum
  | .number _ m e => .number false m e
  | .infinity _ => .infinity false
  | .nan _ t => .nan false t
theorem read_abs64 (x : Nat) : double.read (x % 9223372036854775808) = dabs (double.read x) := by
  have hs : double.signWeight = 9223372036854775808 := by decide +kernel
  unfold Format.read
  dsimp only
  rw [hs, Nat.mod_mod, Nat.div_eq_of_lt (Nat.mod_lt _ (by decide))]
  by_cases h1 : x % 9223372036854775808 < double.binade
  · rw [if_pos h1, if_pos h1]; rfl
  · rw [if_neg h1, if_neg h1]
    by_cases h2 : x % 9223372036854775808 < double.infRung
    · rw [if_pos h2, if_pos h2]; rfl
    · rw [if_neg h2, if_neg h2]
      by_cases h3 : x % 9223372036854775808 = double.infRung
      · rw [if_pos h3, if_pos h3]; rfl
      · rw [if_neg h3, if_neg h3]; rfl

theorem read_max64 : double.read 9218868437227405311 = .number false 9007199254740991 971 := by decide +kernel
/-- a number less than 2 ^ 1000 is not above the greatest finite one -/
theorem order_max (m : Nat) (e : Int) (h : Mag 1000 (.number false m e)) : Datum.order (.number false m e) (.number false 9007199254740991 971) = some .lt := by
  show some (compare (signed false m (e - min e 971).toNat) (signed false 9007199254740991 (971 - min e 971).toNat)) = _
  have h1 := shl_lt m _ e (min e 971) 1000 (by omega) rfl h
  have h2 : 2 ^ (1000 - min e 971).toNat ≤ 9007199254740991 * 2 ^ (971 - min e 971).toNat := by
    have : (1000 - min e 971).toNat = 29 + (971 - min e 971).toNat := by omega
    rw [this, Nat.pow_add]
    exact Nat.mul_le_mul_right _ (by decide)
  have h3 : signed false m (e - min e 971).toNat = ((m * 2 ^ (e - min e 971).toNat : Nat) : Int) := by unfold signed; rw [Nat.shiftLeft_eq]; rfl
  have h4 : signed false 9007199254740991 (971 - min e 971).toNat = ((9007199254740991 * 2 ^ (971 - min e 971).toNat : Nat) : Int) := by unfold signed; rw [Nat.shiftLeft_eq]; rfl
  rw [h3, h4]
  congr 1
  have : ((m * 2 ^ (e - min e 971).toNat : Nat) : Int) < ((9007199254740991 * 2 ^ (971 - min e 971).toNat : Nat) : Int) := by omega
  simp only [compare, compareOfLessAndEq, this, if_true]

theorem read_inf64 (s : Bool) : double.read (double.write (.infinity s)) = .infinity s := by cases s <;> decide +kernel
/-- math.IsInf's test of a widened number -/
theorem widen_isInf {x r : Nat} (hr : FS .f64 r (widen x)) (hn : fnan .f32 x = false) : (FloatKind.f64.format.order (r % 9223372036854775808) 9218868437227405311 == some .gt) = !ffin .f32 x := by
  have hw : r = widen x := by
    rcases hr with h | ⟨h, h2⟩
    · exact h
    · exfalso
      rcases mag_read32 x with ⟨s, t, e⟩ | ⟨s, e⟩ | hm
      · have : fnan .f32 x = true := isNaN_of_read ⟨s, t, e⟩
        rw [hn] at this; cases this
      · unfold widen at h2; rw [e] at h2
        have : fnan .f64 (double.write (.infinity s)) = false := by unfold fnan; show (double.read _).isNaN = false; rw [read_inf64]; rfl
        dsimp only at h2
        rw [this] at h2; cases h2
      · cases hd : single.read x with
        | infinity s => rw [hd] at hm; exact hm.elim
        | nan s t => rw [hd] at hm; exact hm.elim
        | number s m e =>
          rw [hd] at hm
          unfold widen at h2; rw [hd] at h2
          have : fnan .f64 (double.write (.number s m e)) = false := mag_not_nan (mag_write64 hm (by decide) (by decide))
          dsimp only at h2
          rw [this] at h2; cases h2
  subst hw
  show (Datum.order (double.read (widen x % 9223372036854775808)) (double.read 9218868437227405311) == some .gt) = _
  rw [read_abs64, read_max64]
  rcases mag_read32 x with ⟨s, t, e⟩ | ⟨s, e⟩ | hm
  · have : fnan .f32 x = true := isNaN_of_read ⟨s, t, e⟩
    rw [hn] at this; cases this
  · have hf : ffin .f32 x = false := by unfold ffin; show (match single.read x with | .number .. => true | _ => false) = false; rw [e]
    rw [hf]
    have hw : widen x = double.write (.infinity s) := by unfold widen; rw [e]
    rw [hw, read_inf64]; rfl
  · cases hd : single.read x with
    | infinity s => rw [hd] at hm; exact hm.elim
    | nan s t => rw [hd] at hm; exact hm.elim
    | number s m e =>
      have hf : ffin .f32 x = true := by unfold ffin; show (match single.read x with | .number .. => true | _ => false) = true; rw [hd]
      rw [hf]
      rw [hd] at hm
      have hw : widen x = double.write (.number s m e) := by unfold widen; rw [hd]
      have hm2 := mag_write64 hm (by decide) (by decide)
      rw [hw]
      cases hd2 : double.read (double.write (.number s m e)) with
      | infinity s => rw [hd2] at hm2; exact hm2.elim
      | nan s t => rw [hd2] at hm2; exact hm2.elim
      | number s' m' e' =>
        rw [hd2] at hm2
        show (Datum.order (.number false m' e') _ == _) = _
        rw [order_max m' e' (mag_mono hm2 (by decide))]
        rfl
end Go

namespace Go
open Ieee

theorem i64_and_nat (a b : Nat) (ha : a < 9223372036854775808) (hb : b < 9223372036854775808) : bits .and .i64 (a : Int) (b : Int) = ((a &&& b : Nat) : Int) := by
  have hx : a &&& b < 2 ^ 63 := Nat.and_lt_two_pow _ (by omega)
  show IntKind.i64.wrap ((BitVec.ofInt 64 (a : Int) &&& BitVec.ofInt 64 (b : Int)).toNat : Int) = _
  rw [BitVec.toNat_and, ofInt_u64 a (by omega), ofInt_u64 b (by omega), IntKind.wrap_i64]
  omega

theorem mask_exp (x : Nat) : x &&& 2139095040 = x % 2147483648 / 8388608 * 8388608 := nat_midmask 31 23 x (by decide)
theorem mask_sign (x : Nat) (hx : x < 4294967296) : x &&& 2147483648 = x / 2147483648 * 2147483648 := by
  have h1 := nat_midmask 32 31 x (by decide)
  have h2 : x % 2 ^ 32 = x := Nat.mod_eq_of_lt hx
  rw [h2] at h1
  exact h1

/-- no exponent -/
def fsub (x : Nat) : Bool := decide (x % 2147483648 < 8388608)
theorem mask_fsub (x : Nat) : (x &&& 2139095040 = 0) ↔ fsub x = true := by
  unfold fsub
  rw [mask_exp]; simp; omega

theorem read_c126 : double.read 4039728865751334912 = .number false 4503599627370496 (-178) := by decide +kernel


theorem order_c126 (m : Nat) (e last : Int) (h1 : -1074 ≤ last) (h2 : last ≤ e) :
    (Datum.order (.number false (m <<< (e - last).toNat) last) (.number false 4503599627370496 (-178)) == some .lt) = decide (m * 2 ^ (e + 1074).toNat < 2 ^ 948) := by
  rw [order_units false false _ _ last (-178) (-1074) h1 (by decide)]
  have e1 : signed false (m <<< (e - last).toNat) (last - -1074).toNat = ((m * 2 ^ (e + 1074).toNat : Nat) : Int) := by
    unfold signed
    rw [Nat.shiftLeft_eq, Nat.shiftLeft_eq, Nat.mul_assoc, ← Nat.pow_add, show (e - last).toNat + (last - -1074).toNat = (e + 1074).toNat by omega]
    rfl
  have e2 : signed false 4503599627370496 (-178 - -1074 : Int).toNat = ((2 ^ 948 : Nat) : Int) := by
    unfold signed
    rw [Nat.shiftLeft_eq]
    have : (-178 - -1074 : Int).toNat = 896 := by decide
    rw [this]
    decide +kernel
  rw [e1, e2]
  generalize 2 ^ 948 = C
  generalize m * 2 ^ (e + 1074).toNat = A
  simp only [compare, compareOfLessAndEq]
  by_cases h : A < C
  · have : (A : Int) < (C : Int) := by omega
    simp [this, h]
  · have : ¬ (A : Int) < (C : Int) := by omega
    simp only [this, h, if_false, decide_false]
    split <;> rfl

theorem mul_pow_lt (a b k : Nat) (h : a < b) : a * 2 ^ k < b * 2 ^ k := Nat.mul_lt_mul_of_pos_right h (Nat.two_pow_pos _)
theorem mul_pow_le (a b j k : Nat) (h : a ≤ b) (hk : j ≤ k) : a * 2 ^ j ≤ b * 2 ^ k := Nat.mul_le_mul h (Nat.pow_le_pow_right (by decide) hk)
theorem widen_eq {x r : Nat} (hr : FS .f64 r (widen x)) (hn : fnan .f32 x = false) : r = widen x := by
  rcases hr with h | ⟨_, h2⟩
  · exact h
  · exfalso
    rcases mag_read32 x with ⟨s, t, e⟩ | ⟨s, e⟩ | hm
    · have : fnan .f32 x = true := isNaN_of_read ⟨s, t, e⟩
      rw [hn] at this; cases this
    · unfold widen at h2; rw [e] at h2
      have : fnan .f64 (double.write (.infinity s)) = false := by unfold fnan; show (double.read _).isNaN = false; rw [read_inf64]; rfl
      dsimp only at h2
      rw [this] at h2; cases h2
    · cases hd : single.read x with
      | infinity s => rw [hd] at hm; exact hm.elim
      | nan s t => rw [hd] at hm; exact hm.elim
      | number s m e =>
        rw [hd] at hm
        unfold widen at h2; rw [hd] at h2
        have : fnan .f64 (double.write (.number s m e)) = false := mag_not_nan (mag_write64 hm (by decide) (by decide))
        dsimp only at h2
        rw [this] at h2; cases h2

/-- what a 32-bit word reads as -/
theorem read32 (x : Nat) : single.read x =
    if x % 2147483648 < 8388608 then .number (x / 2147483648 % 2 == 1) (x % 2147483648) (-149)
    else if x % 2147483648 < 2139095040 then .number (x / 2147483648 % 2 == 1) (8388608 + x % 2147483648 % 8388608) (-149 + (x % 2147483648 / 8388608 - 1 : Nat))
    else if x % 2147483648 = 2139095040 then .infinity (x / 2147483648 % 2 == 1)
    else .nan (x / 2147483648 % 2 == 1) (x % 2147483648 - 2139095040) := by
  have h1 : single.signWeight = 2147483648 := by decide +kernel
  have h2 : single.binade = 8388608 := by decide +kernel
  have h3 : single.infRung = 2139095040 := by decide +kernel
  have h4 : single.leastPlace = -149 := by decide +kernel
  unfold Format.read
  dsimp only
  rw [h1, h2, h3, h4]

theorem write64_zero (s : Bool) (e : Int) : double.write (.number s 0 e) = double.word s 0 := by
  show double.nearest s 0 e = _
  unfold Format.nearest; rw [if_pos rfl]

theorem widen_subnormal {x r : Nat} (hr : FS .f64 r (widen x)) (hn : fnan .f32 x = false) :
    (FloatKind.f64.format.order (r % 9223372036854775808) 4039728865751334912 == some .lt) = fsub x := by
  have hw := widen_eq hr hn
  subst hw
  show (Datum.order (double.read (widen x % 9223372036854775808)) (double.read 4039728865751334912) == some .lt) = _
  rw [read_abs64, read_c126]
  have hrd := read32 x
  have hE : (3 : Nat) ≤ 2 ^ double.exponentBits := by decide +kernel
  have key : ∀ (s : Bool) (m : Nat) (e : Int), single.read x = .number s m e → m ≠ 0 → m < 16777216 → -149 ≤ e → e ≤ 200 →
      (Datum.order (dabs (double.read (widen x))) (.number false 4503599627370496 (-178)) == some .lt) = decide (m * 2 ^ (e + 1074).toNat < 2 ^ 948) := by
    intro s m e hre hm0 hm1 he1 he2
    have hwr : widen x = double.write (.number s m e) := by unfold widen; rw [hre]
    have hl : m.log2 < 24 := (Nat.log2_lt hm0).2 (by omega)
    obtain ⟨last, hlast, hle, hrd2⟩ := read_write_exact double s m e hm0 (by show m < 2 * 4503599627370496; omega) (by show (2 - 2 ^ 10 - 52 : Int) ≤ e; omega)
      (by show e + m.log2 + 3 ≤ (2048 : Int) + 52 + (2 - 2 ^ 10 - 52 : Int); omega) hE
    rw [hwr, hrd2]
    have hge : -1074 ≤ last := by
      rw [hlast]
      exact Int.le_trans (show (-1074 : Int) ≤ (2 - 2 ^ 10 - 52 : Int) by decide) (Int.le_max_right _ _)
    exact order_c126 m e last hge hle
  unfold fsub
  generalize hR : x % 2147483648 = R at *
  by_cases h1 : R < 8388608
  · rw [if_pos h1] at hrd
    rw [show decide (R < 8388608) = true by simpa using h1]
    by_cases h0 : R = 0
    · subst h0
      have hwr : widen x = double.write (.number (x / 2147483648 % 2 == 1) 0 (-149)) := by unfold widen; rw [hrd]
      rw [hwr, write64_zero]
      cases (x / 2147483648 % 2 == 1) <;> decide +kernel
    · rw [key _ _ _ hrd h0 (by omega) (by omega) (by omega)]
      have : (-149 + 1074 : Int).toNat = 925 := by decide
      rw [this]
      have h2 : 2 ^ 948 = 8388608 * 2 ^ 925 := by decide +kernel
      rw [h2]
      exact decide_eq_true (mul_pow_lt R 8388608 925 h1)
  · rw [if_neg h1] at hrd
    rw [show decide (R < 8388608) = false by simpa using h1]
    by_cases h2 : R < 2139095040
    · rw [if_pos h2] at hrd
      rw [key _ _ _ hrd (by omega) (by omega) (by omega) (by omega)]
      have h3 : 2 ^ 948 ≤ (8388608 + R % 8388608) * 2 ^ (-149 + ((R / 8388608 - 1 : Nat) : Int) + 1074).toNat := by
        have h4 : 2 ^ 948 = 8388608 * 2 ^ 925 := by decide +kernel
        rw [h4]
        exact mul_pow_le 8388608 _ 925 _ (by omega) (by omega)
      exact decide_eq_false (Nat.not_lt.2 h3)
    · rw [if_neg h2] at hrd
      by_cases h3 : R = 2139095040
      · rw [if_pos h3] at hrd
        have hwr : widen x = double.write (.infinity (x / 2147483648 % 2 == 1)) := by unfold widen; rw [hrd]
        rw [hwr, read_inf64]; rfl
      · rw [if_neg h3] at hrd
        have : fnan .f32 x = true := isNaN_of_read ⟨_, _, hrd⟩
        rw [hn] at this; cases this
end Go

namespace Go
open Ieee

theorem log2_bd {m : Nat} (h0 : m ≠ 0) : 2 ^ m.log2 ≤ m ∧ m < 2 ^ (m.log2 + 1) := ⟨Nat.log2_self_le h0, Nat.lt_log2_self⟩

/-- a positive finite 32-bit number, widened: a normal word -/
theorem widen_pos {x : Nat} (h0 : 0 < x) (hx : x < 2139095040) : 874 * 4503599627370496 ≤ widen x ∧ widen x < 1151 * 4503599627370496 := by
  have hrp := read_pos single (show x < single.infRung by rw [show single.infRung = 2139095040 from by decide +kernel]; exact hx)
  have hb : single.binade = 8388608 := by decide +kernel
  have hlp : single.leastPlace = -149 := by decide +kernel
  -- the datum and its size
  have hd : ∃ (m : Nat) (e : Int), single.read x = .number false m e ∧ m ≠ 0 ∧ m < 16777216 ∧ -149 ≤ e ∧ e + m.log2 ≤ 127 := by
    have h := read_word single false (show x < single.infRung by rw [show single.infRung = 2139095040 from by decide +kernel]; exact hx)
    rw [word_pos, hb, hlp] at h
    by_cases hs : x < 8388608
    · rw [if_pos hs] at h
      refine ⟨_, _, h, by omega, by omega, by decide, ?_⟩
      have := (Nat.log2_lt (show x ≠ 0 by omega)).2 (show x < 2 ^ 23 by omega)
      omega
    · rw [if_neg hs] at h
      refine ⟨_, _, h, by omega, by omega, by omega, ?_⟩
      have := (Nat.log2_lt (show 8388608 + x % 8388608 ≠ 0 by omega)).2 (show 8388608 + x % 8388608 < 2 ^ 24 by omega)
      omega
  obtain ⟨m, e, hr, hm0, hm1, he0, he1⟩ := hd
  have hw : widen x = double.nearest false m e := by unfold widen; rw [hr]; rfl
  have hl : m.log2 < 24 := (Nat.log2_lt hm0).2 (by omega)
  obtain ⟨j, hj⟩ : ∃ j : Nat, m.log2 + j = 52 := ⟨52 - m.log2, by omega⟩
  have hM1 : 4503599627370496 ≤ m * 2 ^ j := by
    have := Nat.mul_le_mul_right (2 ^ j) (log2_bd hm0).1
    rw [← Nat.pow_add, hj] at this
    simpa using this
  have hM2 : m * 2 ^ j < 9007199254740992 := by
    have := Nat.mul_lt_mul_of_pos_right (log2_bd hm0).2 (Nat.two_pow_pos j)
    rw [← Nat.pow_add, show m.log2 + 1 + j = 53 by omega] at this
    simpa using this
  have hb2 : double.binade = 4503599627370496 := by decide +kernel
  have hlp2 : double.leastPlace = -1074 := by decide +kernel
  rw [hw, ← nearest_scale double false m j e]
  have h := write_whole double false (m * 2 ^ j) (e - j) (by rw [hb2]; exact hM1) (by rw [hb2]; omega) (by rw [hlp2]; omega) (by rw [hlp2, hb2, inf64]; omega)
  rw [write_nearest, word_pos, hlp2, hb2] at h
  rw [h]
  generalize m * 2 ^ j = M at *
  omega
theorem lgE_widen {x : Nat} (h0 : 0 < x) (hx : x < 2139095040) : (lgE (widen x)).natAbs < 256 := by
  have := widen_pos h0 hx
  unfold lgE
  omega

/-- below zero -/
theorem order_neg (m : Nat) (e d : Int) (hm : m ≠ 0) : Datum.order (.number true m e) (.number false 0 d) = some .lt := by
  show some (compare (signed true m (e - min e d).toNat) (signed false 0 (d - min e d).toNat)) = _
  have e2 : signed false 0 (d - min e d).toNat = 0 := by unfold signed; simp
  have e1 : signed true m (e - min e d).toNat < 0 := by
    unfold signed
    rw [Nat.shiftLeft_eq]
    have : 0 < m * 2 ^ (e - min e d).toNat := Nat.mul_pos (Nat.pos_of_ne_zero hm) (Nat.two_pow_pos _)
    simp only [if_true]
    omega
  rw [e2]
  simp only [compare, compareOfLessAndEq, e1, if_true]
theorem read_zero32 : single.read 0 = .number false 0 (-149) := by decide +kernel
theorem read_zero64 : double.read 0 = .number false 0 (-1074) := by decide +kernel

/-- a negative 32-bit number that is no zero and no NaN -/
def fneg (x : Nat) : Prop := 2147483648 < x ∧ x ≤ 4286578688
theorem neg32 {x : Nat} (h : fneg x) : FloatKind.f32.format.order x 0 = some .lt := by
  obtain ⟨h1, h2⟩ := h
  show Datum.order (single.read x) (single.read 0) = _
  rw [read_zero32, read32]
  have hs : (x / 2147483648 % 2 == 1) = true := by rw [beq_iff_eq]; omega
  rw [hs]
  split
  · exact order_neg _ _ _ (by omega)
  · split
    · exact order_neg _ _ _ (by omega)
    · rw [if_pos (by omega)]; rfl
theorem neg64 {x : Nat} (h : fneg x) : FloatKind.f64.format.order (widen x) 0 = some .lt := by
  obtain ⟨h1, h2⟩ := h
  show Datum.order (double.read (widen x)) (double.read 0) = _
  rw [read_zero64]
  have hr := read32 x
  have hs : (x / 2147483648 % 2 == 1) = true := by rw [beq_iff_eq]; omega
  rw [hs] at hr
  have key : ∀ (m : Nat) (e : Int), single.read x = .number true m e → m ≠ 0 → m < 16777216 → -149 ≤ e → e ≤ 200 → Datum.order (double.read (widen x)) (.number false 0 (-1074)) = some .lt := by
    intro m e hre hm0 hm1 he1 he2
    have hl : m.log2 < 24 := (Nat.log2_lt hm0).2 (by omega)
    obtain ⟨last, hlast, hle, hrd2⟩ := read_write_exact double true m e hm0 (by show m < 2 * 4503599627370496; omega) (by show (2 - 2 ^ 10 - 52 : Int) ≤ e; omega)
      (by show e + m.log2 + 3 ≤ (2048 : Int) + 52 + (2 - 2 ^ 10 - 52 : Int); omega) (by decide +kernel)
    have hw : widen x = double.write (.number true m e) := by unfold widen; rw [hre]
    rw [hw, hrd2]
    refine order_neg _ _ _ ?_
    rw [Nat.shiftLeft_eq]
    exact Nat.mul_ne_zero hm0 (Nat.pos_iff_ne_zero.1 (Nat.two_pow_pos _))
  by_cases c1 : x % 2147483648 < 8388608
  · rw [if_pos c1] at hr
    exact key _ _ hr (by omega) (by omega) (by omega) (by omega)
  · rw [if_neg c1] at hr
    by_cases c2 : x % 2147483648 < 2139095040
    · rw [if_pos c2] at hr
      exact key _ _ hr (by omega) (by omega) (by omega) (by omega)
    · rw [if_neg c2, if_pos (by omega)] at hr
      have hw : widen x = double.write (.infinity true) := by unfold widen; rw [hr]
      rw [hw, read_inf64]; rfl
theorem neg_num {x : Nat} (h : fneg x) : fnan .f32 x = false := by
  cases hn : fnan .f32 x
  · rfl
  · have := neg32 h
    rw [order_nan_l hn] at this; cases this
theorem pos_num {x : Nat} (h : x ≤ 2139095040) : fnan .f32 x = false := by
  unfold fnan
  show (single.read x).isNaN = false
  rw [read32]
  split
  · rfl
  · split
    · rfl
    · rw [if_pos (by omega)]; rfl
/-- the five kinds -/
theorem kinds32 (x : Nat) (hx : x < 4294967296) : fnan .f32 x = true ∨ fneg x ∨ (x = 0 ∨ x = 2147483648) ∨ (0 < x ∧ x < 2139095040) ∨ x = 2139095040 := by
  by_cases h1 : x ≤ 2139095040
  · by_cases h2 : x = 0
    · exact .inr (.inr (.inl (.inl h2)))
    · by_cases h3 : x = 2139095040
      · exact .inr (.inr (.inr (.inr h3)))
      · exact .inr (.inr (.inr (.inl ⟨by omega, by omega⟩)))
  · by_cases h2 : x = 2147483648
    · exact .inr (.inr (.inl (.inr h2)))
    · by_cases h3 : fneg x
      · exact .inr (.inl h3)
      · refine .inl (nan32_of ?_)
        unfold fneg at h3
        omega
end Go

namespace Go
open Ieee

theorem mle_fop {op : BinOp} {x y : Nat} {d : Datum} {k : Int} (h : (match op with | .add => (double.read x).sum (double.read y) | .sub => (double.read x).sum (double.read y).opposite | .mul => (double.read x).product (double.read y) | .quo => (double.read x).quotient 54 (double.read y) | _ => none) = some d) (hm : Mle k d) (h1 : -1021 ≤ k) (h2 : k ≤ 1022) :
    Mle k (double.read (fop op .f64 x y)) := by
  have : fop op .f64 x y = double.write d := by
    cases op <;> simp only at h <;> first | (cases h; done) | skip
    all_goals
      unfold fop floatBits
      dsimp only
    · show ((double.add x y)).getD _ = _
      unfold Format.add; rw [h]; rfl
    · show ((double.sub x y)).getD _ = _
      unfold Format.sub; rw [h]; rfl
    · show ((double.mul x y)).getD _ = _
      unfold Format.mul; rw [h]; rfl
    · show ((double.div x y)).getD _ = _
      unfold Format.div
      show (Option.map double.write ((double.read x).quotient 54 (double.read y))).getD _ = _
      rw [h]; rfl
  rw [this]
  exact mle_write64 hm h1 h2
theorem mle_add {x y : Nat} {k : Int} (hx : Mle k (double.read x)) (hy : Mle k (double.read y)) (h1 : -1021 ≤ k + 1) (h2 : k + 1 ≤ 1022) : Mle (k + 1) (double.read (fop .add .f64 x y)) := by
  obtain ⟨d, h, hm⟩ := mle_sum hx hy
  exact mle_fop (op := .add) h hm h1 h2
theorem mle_mul {x y : Nat} {j k : Int} (hx : Mle j (double.read x)) (hy : Mle k (double.read y)) (h1 : -1021 ≤ j + k) (h2 : j + k ≤ 1022) : Mle (j + k) (double.read (fop .mul .f64 x y)) := by
  obtain ⟨d, h, hm⟩ := mle_product hx hy
  exact mle_fop (op := .mul) h hm h1 h2
theorem mle_fls {x : Nat} (h1 : 4604930618986332160 ≤ x) (h2 : x < 4609434218613702656) : Mle 0 (double.read (fls x)) := by
  obtain ⟨d, h, hm⟩ := mag_quotient 54 (mag_less h1 h2) (big_more h1 h2)
  exact mle_fop (op := .quo) h (.inl hm) (by decide) (by decide)
theorem mle_int {n : Int} {k : Nat} (h : n.natAbs < 2 ^ k) (hk : k ≤ 1000) : Mle k (double.read (floatOfInt .f64 n)) := by
  refine mle_write64 (d := .number (n < 0) n.natAbs 0) (k := (k : Int)) (.inl ?_) (by omega) (by omega)
  by_cases h0 : n.natAbs = 0
  · exact .inl h0
  · exact .inr (by have := (Nat.log2_lt h0).2 h; omega)
theorem mle_inv (i : Nat) (hi : i < 13) : Mle 0 (double.read (fop .quo .f64 4607182418800017408 (floatOfInt .f64 (25 - 2 * (i : Int))))) := by
  have h : ∀ i : Fin 13, (match double.read (fop .quo .f64 4607182418800017408 (floatOfInt .f64 (25 - 2 * ((i : Nat) : Int)))) with | .number _ m e => decide (m = 0 ∨ e + m.log2 < 0) || decide (m = 4503599627370496 ∧ e = -52) | _ => false) = true := by decide +kernel
  have h2 := h ⟨i, hi⟩
  dsimp only at h2
  cases hd : double.read (fop .quo .f64 4607182418800017408 (floatOfInt .f64 (25 - 2 * (i : Int)))) with
  | number s m e =>
    rw [hd] at h2
    dsimp only at h2
    rw [Bool.or_eq_true] at h2
    rcases h2 with h2 | h2
    · exact .inl (of_decide_eq_true (p := m = 0 ∨ e + (m.log2 : Int) < 0) h2)
    · have h3 := of_decide_eq_true h2
      exact .inr ⟨s, 52, e, by rw [h3.1], by have := h3.2; omega⟩
  | infinity s => rw [hd] at h2; cases h2
  | nan s t => rw [hd] at h2; cases h2
theorem mle_fqn {u : Nat} (hu : Mle 0 (double.read u)) : ∀ i : Nat, i ≤ 13 → Mle i (double.read (fqn u i))
  | 0, _ => by
    show Mle _ (double.read 0)
    rw [read_zero64]; exact .inl (.inl rfl)
  | i + 1, hi => by
    have h1 := mle_fqn hu i (by omega)
    have h2 := mle_mul hu h1 (by omega) (by omega)
    have h3 := mle_inv i (by omega)
    rw [Int.zero_add] at h2
    exact mle_add (h3.mono (by omega)) h2 (by omega) (by omega)
theorem mle_flog {x0 : Nat} (he : (lgE x0).natAbs < 256) : Mle 15 (double.read (flog x0)) := by
  obtain ⟨b1, b2⟩ := lgX_bd x0
  have hs := mle_fls b1 b2
  have hu := mle_mul hs hs (by decide) (by decide)
  have hq := mle_fqn hu 13 (by decide)
  have hsq := mle_mul hs hq (by decide) (by decide)
  have htwo : Mle 1 (double.read 4611686018427387904) := by rw [read_two]; exact .inr ⟨false, 52, -51, by decide +kernel, by decide⟩
  have h2 := mle_mul htwo hsq (by decide) (by decide)
  have hE := mle_int (n := lgE x0) (k := 8) he (by decide)
  have hc : Mle 0 (double.read 4604418534313441775) := by
    have : double.read 4604418534313441775 = .number false 6243314768165359 (-53) := by decide +kernel
    rw [this]; exact .inl (.inr (by decide +kernel))
  have h3 := mle_mul hE hc (by decide) (by decide)
  exact mle_add h2 (h3.mono (by decide)) (by decide) (by decide)

def ften (x : Nat) : Nat := fop .add .f64 (fop .mul .f64 (flog (widen x)) 4631308968768463603) 4602678819172646912
theorem mle_ften {x : Nat} (h0 : 0 < x) (hx : x < 2139095040) : Mle 22 (double.read (ften x)) := by
  have h1 := mle_flog (lgE_widen h0 hx)
  have hc : Mle 6 (double.read 4631308968768463603) := by
    have : double.read 4631308968768463603 = .number false 6112151458964211 (-47) := by decide +kernel
    rw [this]; exact .inl (.inr (by decide +kernel))
  have hh : Mle 0 (double.read 4602678819172646912) := by
    have : double.read 4602678819172646912 = .number false 4503599627370496 (-53) := by decide +kernel
    rw [this]; exact .inl (.inr (by decide +kernel))
  exact mle_add (mle_mul h1 hc (by decide) (by decide)) (hh.mono (by decide)) (by decide) (by decide)
theorem mle_nan {x : Nat} {k : Int} (h : Mle k (double.read x)) : fnan .f64 x = false := by
  obtain ⟨s, m, e, hd⟩ := h.number
  unfold fnan
  show (double.read x).isNaN = false
  rw [hd]; rfl

theorem cut_any (way : Toward) (neg : Bool) (n drop : Nat) : way.cut neg n drop ≤ n / 2 ^ drop + 1 := by
  unfold Toward.cut
  dsimp only
  rw [Nat.one_shiftLeft]
  have hb : ∀ b : Bool, b.toNat ≤ 1 := fun b => by cases b <;> decide
  by_cases hd : drop ≤ n.log2 + 2
  · rw [Nat.min_eq_left hd]
    exact Nat.add_le_add_left (hb _) _
  · rw [Nat.min_eq_right (by omega)]
    have h0 : n < 2 ^ (n.log2 + 1) := Nat.lt_log2_self
    have h1 : 2 ^ (n.log2 + 1) ≤ 2 ^ (n.log2 + 2) := Nat.pow_le_pow_right (by decide) (by omega)
    rw [Nat.div_eq_of_lt (show n < 2 ^ (n.log2 + 2) by omega), Nat.zero_add]
    exact Nat.le_trans (hb _) (Nat.le_add_left _ _)
theorem cut_small (way : Toward) {s : Bool} {m : Nat} {e : Int} {k : Nat} (h : Mle k (.number s m e)) (neg : Bool) : way.cut neg (m <<< e.toNat) (-e).toNat ≤ 2 ^ k + 1 := by
  refine Nat.le_trans (cut_any _ _ _ _) (Nat.add_le_add_right ?_ 1)
  rw [Nat.shiftLeft_eq]
  by_cases he : 0 ≤ e
  · have h1 := h.units (b := 0) he
    have e1 : (-e).toNat = 0 := by omega
    rw [e1, Nat.pow_zero, Nat.div_one]
    have e2 : (e - 0).toNat = e.toNat := by omega
    have e3 : ((k : Int) - 0).toNat = k := by omega
    rw [e2, e3] at h1
    exact h1
  · have h1 := h.units (b := e) (Int.le_refl _)
    have e1 : e.toNat = 0 := by omega
    have e2 : (e - e).toNat = 0 := by omega
    have e3 : ((k : Int) - e).toNat = k + (-e).toNat := by omega
    rw [e2, e3, Nat.pow_zero, Nat.mul_one, Nat.pow_add] at h1
    rw [e1, Nat.pow_zero, Nat.mul_one]
    exact Nat.div_le_of_le_mul (by rw [Nat.mul_comm]; exact h1)

/-- the floor of a word -/
def ffloor (x : Nat) : Nat := double.write ((double.read x).integral .down)
theorem mle_floor {x : Nat} {k : Nat} (h : Mle k (double.read x)) (hk : k ≤ 1000) : Mle (k + 1) (double.read (ffloor x)) := by
  obtain ⟨s, m, e, hd⟩ := h.number
  unfold ffloor
  rw [hd] at h ⊢
  refine mle_write64 ?_ (by omega) (by omega)
  refine Mle.of_units (b := 0) ?_ (by omega)
  refine Nat.le_trans (cut_small _ h _) ?_
  have : ((k : Int) + 1 - 0).toNat = k + 1 := by omega
  rw [this, Nat.pow_succ]
  have := Nat.two_pow_pos k
  omega
/-- a small word as an int64 -/
theorem int_small {x : Nat} {k : Nat} (h : Mle k (double.read x)) (hk : k ≤ 60) : ∃ n, floatToIntVal .f64 x .i64 = some n ∧ (double.read x).toInt .zero = some n ∧ n.natAbs ≤ 2 ^ k + 1 := by
  obtain ⟨s, m, e, hd⟩ := h.number
  have hc := cut_small .zero (by rw [hd] at h; exact h) s
  refine ⟨signed s (Toward.zero.cut s (m <<< e.toNat) (-e).toNat) 0, ?_, ?_, ?_⟩
  · unfold floatToIntVal
    have h1 : (FloatKind.f64.decode x).toInt .zero = some (signed s (Toward.zero.cut s (m <<< e.toNat) (-e).toNat) 0) := by
      show (double.read x).toInt .zero = _
      rw [hd]; rfl
    rw [h1]
    dsimp only
    have h2 := signed_natAbs s (Toward.zero.cut s (m <<< e.toNat) (-e).toNat) 0
    have h3 : 2 ^ k ≤ 2 ^ 60 := Nat.pow_le_pow_right (by decide) hk
    have h4 : (2 : Nat) ^ 60 = 1152921504606846976 := by decide +kernel
    rw [Nat.pow_zero, Nat.mul_one] at h2
    rw [if_pos]
    have e1 : IntKind.i64.min = -9223372036854775808 := by decide +kernel
    have e2 : IntKind.i64.max = 9223372036854775807 := by decide +kernel
    rw [e1, e2]
    omega
  · rw [hd]; rfl
  · have h2 := signed_natAbs s (Toward.zero.cut s (m <<< e.toNat) (-e).toNat) 0
    rw [Nat.pow_zero, Nat.mul_one] at h2
    rw [h2]; exact hc
/-- the tenths -/
def tenths (x : Nat) : Int := ((double.read (ffloor (ften x))).toInt .zero).getD 0
theorem tenths_eq {x : Nat} (h0 : 0 < x) (hx : x < 2139095040) : floatToIntVal .f64 (ffloor (ften x)) .i64 = some (tenths x) ∧ (tenths x).natAbs ≤ 16777216 := by
  obtain ⟨n, h1, h2, h3⟩ := int_small (k := 23) (mle_floor (k := 22) (mle_ften h0 hx) (by decide)) (by decide)
  have : tenths x = n := by unfold tenths; rw [h2]; rfl
  rw [this]
  exact ⟨h1, Nat.le_trans h3 (by decide)⟩
end Go

namespace Go
open Ieee
theorem int_small32 {x : Nat} {k : Nat} (h : Mle k (single.read x)) (hk : k ≤ 60) : ∃ n, floatToIntVal .f32 x .i64 = some n := by
  obtain ⟨s, m, e, hd⟩ := h.number
  have hc := cut_small .zero (by rw [hd] at h; exact h) s
  refine ⟨signed s (Toward.zero.cut s (m <<< e.toNat) (-e).toNat) 0, ?_⟩
  unfold floatToIntVal
  have h1 : (FloatKind.f32.decode x).toInt .zero = some (signed s (Toward.zero.cut s (m <<< e.toNat) (-e).toNat) 0) := by
    show (single.read x).toInt .zero = _
    rw [hd]; rfl
  rw [h1]
  dsimp only
  have h2 := signed_natAbs s (Toward.zero.cut s (m <<< e.toNat) (-e).toNat) 0
  have h3 : 2 ^ k ≤ 2 ^ 60 := Nat.pow_le_pow_right (by decide) hk
  have h4 : (2 : Nat) ^ 60 = 1152921504606846976 := by decide +kernel
  rw [Nat.pow_zero, Nat.mul_one] at h2
  rw [if_pos]
  have e1 : IntKind.i64.min = -9223372036854775808 := by decide +kernel
  have e2 : IntKind.i64.max = 9223372036854775807 := by decide +kernel
  rw [e1, e2]
  omega
theorem big_one {x : Nat} (h1 : 1065353216 ≤ x) (h2 : x < 2139095040) : Big 0 (single.read x) := by
  obtain ⟨m, u, g1, g2⟩ := read_uv h2
  have h3 := uv_le h1
  rw [uv_one, ← g2] at h3
  rw [g1]
  have hm : m ≠ 0 := by
    intro hm
    subst hm
    have := Nat.two_pow_pos 149
    omega
  refine ⟨hm, ?_⟩
  have h4 : m < 2 ^ (m.log2 + 1) := Nat.lt_log2_self
  have h5 : m * 2 ^ u < 2 ^ (m.log2 + 1 + u) := by
    rw [Nat.pow_add]; exact Nat.mul_lt_mul_of_pos_right h4 (Nat.two_pow_pos _)
  have h6 : (2 : Nat) ^ 149 < 2 ^ (m.log2 + 1 + u) := Nat.lt_of_le_of_lt h3 h5
  have h7 := (Nat.pow_lt_pow_iff_right (by decide : 1 < 2)).1 h6
  omega
theorem mag_quo32 {x y : Nat} {k : Int} (hx : Mag k (single.read x)) (hy : Big 0 (single.read y)) (h1 : -125 ≤ k) (h2 : k ≤ 127) : Mag (k + 1) (single.read (fop .quo .f32 x y)) := by
  obtain ⟨d, hd, hm⟩ := mag_quotient (single.fractionBits + 2) hx hy
  have : fop .quo .f32 x y = single.write d := by
    show (single.div x y).getD _ = _
    unfold Format.div
    rw [hd]; rfl
  rw [this]
  exact mag_write32 (by rw [Int.sub_zero] at hm; exact hm) h1 h2
theorem sub_ge {x y z : Nat} (hx : x < 2139095040) (hy : y ≤ x) (hz : z ≤ 2139095040) (h : uv z + uv y ≤ uv x) : z ≤ fop .sub .f32 x y := by
  rw [fsub_nw hx hy]; exact nw_ge hz (by omega)
theorem big_low {x : Nat} {k : Nat} (y : Nat) (h1 : y ≤ x) (h2 : x < 2139095040) (hy : uv y = 2 ^ k) : Big ((k : Int) - 149) (single.read x) := by
  obtain ⟨m, u, g1, g2⟩ := read_uv h2
  have h3 := uv_le h1
  rw [hy, ← g2] at h3
  rw [g1]
  have hm : m ≠ 0 := by
    intro hm
    subst hm
    have := Nat.two_pow_pos k
    omega
  refine ⟨hm, ?_⟩
  have h4 : m < 2 ^ (m.log2 + 1) := Nat.lt_log2_self
  have h5 : m * 2 ^ u < 2 ^ (m.log2 + 1 + u) := by
    rw [Nat.pow_add]; exact Nat.mul_lt_mul_of_pos_right h4 (Nat.two_pow_pos _)
  have h6 : (2 : Nat) ^ k < 2 ^ (m.log2 + 1 + u) := Nat.lt_of_le_of_lt h3 h5
  have h7 := (Nat.pow_lt_pow_iff_right (by decide : 1 < 2)).1 h6
  omega
theorem mag_low {x : Nat} {k : Nat} (y : Nat) (h1 : x ≤ y) (h2 : y < 2139095040) (hy : uv y = 2 ^ k) : Mag ((k : Int) - 148) (single.read x) := by
  obtain ⟨m, u, g1, g2⟩ := read_uv (x := x) (by omega)
  have h3 := uv_le h1
  rw [hy, ← g2] at h3
  rw [g1]
  by_cases hm : m = 0
  · exact .inl hm
  · refine .inr ?_
    have h4 : 2 ^ m.log2 ≤ m := Nat.log2_self_le hm
    have h5 : 2 ^ (m.log2 + u) ≤ m * 2 ^ u := by
      rw [Nat.pow_add]; exact Nat.mul_le_mul_right _ h4
    have h7 := (Nat.pow_le_pow_iff_right (by decide : 1 < 2)).1 (Nat.le_trans h5 h3)
    omega
theorem mag_quo32' {x y : Nat} {j k : Int} (hx : Mag j (single.read x)) (hy : Big k (single.read y)) (h1 : -125 ≤ j - k) (h2 : j - k ≤ 127) : Mag (j - k + 1) (single.read (fop .quo .f32 x y)) := by
  obtain ⟨d, hd, hm⟩ := mag_quotient (single.fractionBits + 2) hx hy
  have : fop .quo .f32 x y = single.write d := by
    show (single.div x y).getD _ = _
    unfold Format.div
    rw [hd]; rfl
  rw [this]
  exact mag_write32 hm h1 h2
theorem mag_mul32 {x y : Nat} {j k : Int} (hx : Mag j (single.read x)) (hy : Mag k (single.read y)) (h1 : -125 ≤ j + k) (h2 : j + k ≤ 127) : Mag (j + k + 1) (single.read (fop .mul .f32 x y)) := by
  obtain ⟨d, hd, hm⟩ := mag_product hx hy
  have : fop .mul .f32 x y = single.write d := by
    show (single.mul x y).getD _ = _
    unfold Format.mul
    rw [hd]; rfl
  rw [this]
  exact mag_write32 hm h1 h2
theorem mag_add32 {x y : Nat} {k : Int} (hx : Mag k (single.read x)) (hy : Mag k (single.read y)) (h1 : -126 ≤ k) (h2 : k ≤ 126) : Mag (k + 2) (single.read (fop .add .f32 x y)) := by
  obtain ⟨d, hd, hm⟩ := mag_sum hx hy
  have : fop .add .f32 x y = single.write d := by
    show (single.add x y).getD _ = _
    unfold Format.add
    rw [hd]; rfl
  rw [this]
  have := mag_write32 hm (by omega) (by omega)
  exact mag_mono this (by omega)
theorem mag_one : Mag 1 (single.read 1065353216) := by
  have h : single.read 1065353216 = .number false 8388608 (-23) := by decide +kernel
  rw [h]
  exact .inr (by decide +kernel)
theorem mag_share {x : Nat} (h : Sh x) : Mag 1 (single.read x) := by
  rw [read_mod]
  rcases h with h | h
  · exact mag_low (k := 149) 1065353216 h (by decide) uv_one
  · rw [h]
    have : single.read 2147483648 = .number true 0 (-149) := by decide +kernel
    rw [this]
    exact .inl rfl
/-- what is left of 1 when a share is less -/
theorem left_big {x : Nat} (h : Sh x) (hl : single.order x 1065353216 = some .lt) : Big (-24) (single.read (fop .sub .f32 1065353216 x)) := by
  rw [order_mod] at hl
  rw [fop_mod]
  rcases h with h | h
  · generalize x % 4294967296 = y at *
    have h1 : y < 1065353216 := by
      rw [order_pos single (by rw [s_inf]; omega) (by rw [s_inf]; decide)] at hl
      injection hl with hl
      exact Nat.compare_eq_lt.1 hl
    have e1 : uv 864026624 = 2 ^ 125 := by decide +kernel
    have e2 : uv 864026624 + uv 1065353215 = uv 1065353216 := by decide +kernel
    have h2 := uv_le (show y ≤ 1065353215 by omega)
    have h3 : 864026624 ≤ fop .sub .f32 1065353216 y := sub_ge (by decide) (by omega) (by decide) (by omega)
    have h4 : fop .sub .f32 1065353216 y ≤ 1065353216 := sub_le (by decide) (by omega)
    exact big_low (k := 125) 864026624 h3 (by omega) e1
  · rw [h]
    have : fop .sub .f32 1065353216 2147483648 = 1065353216 := by decide +kernel
    rw [this]
    have := big_one (x := 1065353216) (Nat.le_refl _) (by decide)
    have h : single.read 1065353216 = .number false 8388608 (-23) := by decide +kernel
    rw [h]
    exact ⟨by decide, by decide +kernel⟩
theorem mag_fin {x : Nat} {k : Int} (h : Mag k (single.read x)) : ffin .f32 x = true := by
  unfold ffin
  show (match single.read x with | .number .. => true | _ => false) = true
  revert h
  cases single.read x with
  | number s m e => intro _; rfl
  | infinity s => exact fun h => h.elim
  | nan s t => exact fun h => h.elim
theorem ffin_low {x : Nat} (h : x < 2139095040) : ffin .f32 x = true := by
  obtain ⟨m, u, h1, _⟩ := read_uv h
  unfold ffin
  show (match single.read x with | .number .. => true | _ => false) = true
  rw [h1]
end Go

namespace Go
open Ieee
theorem s_weight : single.signWeight = 2147483648 := by decide +kernel
theorem cut_sign (s : Bool) (n d : Nat) : Toward.even.cut s n d = Toward.even.cut false n d := rfl
theorem rung_sign (f : Format) (s : Bool) (n : Nat) (p : Int) : rungOf f s n p = rungOf f false n p := by
  unfold rungOf
  dsimp only
  rw [cut_sign]
theorem near_sign (s : Bool) (n : Nat) : single.nearest s n (-149) = single.word s (nw n) := by
  by_cases h : n = 0
  · subst h
    unfold nw Format.nearest
    rw [if_pos rfl, if_pos rfl]
    unfold Format.word
    cases s <;> rfl
  · have h1 := write_number single s n (-149) h
    have h2 := write_number single false n (-149) h
    have h3 : single.nearest s n (-149) = single.word s (min (rungOf single s n (-149)) single.infRung) := h1
    have h4 : nw n = single.word false (min (rungOf single false n (-149)) single.infRung) := h2
    rw [h3, h4, rung_sign, word_pos]
theorem near_up' (s : Bool) (n u : Nat) (p : Int) : single.nearest s n (p + u) = single.nearest s (n * 2 ^ u) p := by
  rw [← nearest_scale single s n u (p + u)]
  congr 1; omega
/-- a word of a sign and a rung -/
theorem word_parts {x : Nat} (h : x < 4294967296) : ∃ s r, x = single.word s r ∧ r = x % 2147483648 := by
  by_cases hx : x < 2147483648
  · exact ⟨false, x % 2147483648, by unfold Format.word; rw [if_neg (by decide)]; omega, rfl⟩
  · exact ⟨true, x % 2147483648, by unfold Format.word; rw [if_pos rfl, s_weight]; omega, rfl⟩
theorem word_mod {s : Bool} {r : Nat} (h : r < 2147483648) : single.word s r % 2147483648 = r := by
  unfold Format.word
  rw [s_weight]
  cases s <;> simp <;> omega
theorem word_lt32 {s : Bool} {r : Nat} (h : r < 2147483648) : single.word s r < 4294967296 := by
  unfold Format.word
  rw [s_weight]
  cases s <;> simp <;> omega
theorem read_sg {s : Bool} {r : Nat} (hr : r < 2139095040) : ∃ m u : Nat, single.read (single.word s r) = .number s m (-149 + u) ∧ m * 2 ^ u = uv r := by
  have h := read_word single s (rung := r) (by rw [s_inf]; exact hr)
  rw [s_binade, s_least] at h
  rw [h]
  unfold uv units
  split
  · exact ⟨r, 0, by simp, by simp⟩
  · exact ⟨_, (r / 8388608 - 1), rfl, rfl⟩
/-- bounded: finite, of at most c least units -/
def Ub (c : Nat) (x : Nat) : Prop := x < 4294967296 ∧ x % 2147483648 < 2139095040 ∧ uv (x % 2147483648) ≤ c
theorem Ub.mono {c d x : Nat} (h : Ub c x) (hcd : c ≤ d) : Ub d x := ⟨h.1, h.2.1, Nat.le_trans h.2.2 hcd⟩
theorem Ub.fin {c x : Nat} (h : Ub c x) : ffin .f32 x = true := by
  obtain ⟨s, r, hx, hr⟩ := word_parts h.1
  obtain ⟨m, u, h1, _⟩ := read_sg (s := s) (r := r) (by rw [hr]; exact h.2.1)
  rw [← hx] at h1
  unfold ffin
  show (match single.read x with | .number .. => true | _ => false) = true
  rw [h1]
theorem Ub.zero : Ub 0 0 := ⟨by decide, by decide, by decide +kernel⟩
/-- sums of two -/
theorem sum_sg (s t : Bool) (m n u v : Nat) : ∃ σ T, (Datum.number s m (-149 + u)).sum (.number t n (-149 + v)) = some (.number σ T (-149 + (min u v : Nat))) ∧ T * 2 ^ min u v ≤ m * 2 ^ u + n * 2 ^ v ∧ (T = 0 → σ = (s && t)) ∧ (T = 0 → s = true → t = true → m = 0) := by
  unfold Datum.sum
  dsimp only
  have e0 : min (-149 + (u : Int)) (-149 + (v : Int)) = -149 + ((min u v : Nat) : Int) := by omega
  rw [e0]
  have e1 : (-149 + (u : Int) - (-149 + ((min u v : Nat) : Int))).toNat = u - min u v := by omega
  have e2 : (-149 + (v : Int) - (-149 + ((min u v : Nat) : Int))).toNat = v - min u v := by omega
  rw [e1, e2]
  have a1 := signed_natAbs s m (u - min u v)
  have a2 := signed_natAbs t n (v - min u v)
  refine ⟨_, _, rfl, ?_, ?_, ?_⟩
  · have h3 := Int.natAbs_add_le (signed s m (u - min u v)) (signed t n (v - min u v))
    rw [a1, a2] at h3
    refine Nat.le_trans (Nat.mul_le_mul_right _ h3) ?_
    rw [Nat.add_mul, Nat.mul_assoc, Nat.mul_assoc, ← Nat.pow_add, ← Nat.pow_add, show u - min u v + min u v = u by omega, show v - min u v + min u v = v by omega]
    exact Nat.le_refl _
  · intro h
    rw [if_pos (by omega)]
  · intro h hs ht
    subst hs; subst ht
    have h0 : signed true m (u - min u v) + signed true n (v - min u v) = 0 := by omega
    unfold signed at h0
    rw [if_pos rfl, if_pos rfl, Nat.shiftLeft_eq, Nat.shiftLeft_eq] at h0
    have h1 : m * 2 ^ (u - min u v) = 0 := by omega
    rcases Nat.mul_eq_zero.1 h1 with h | h
    · exact h
    · exact absurd h (Nat.ne_of_gt (Nat.two_pow_pos _))
theorem fadd_sg {x y : Nat} {a b : Nat} (hx : Ub a x) (hy : Ub b y) : ∃ σ N, fop .add .f32 x y = single.word σ (nw N) ∧ N ≤ a + b ∧ (x ≠ 2147483648 → N = 0 → σ = false) := by
  obtain ⟨s, r, ex, er⟩ := word_parts hx.1
  obtain ⟨t, q, ey, eq⟩ := word_parts hy.1
  obtain ⟨m, u, h1, h2⟩ := read_sg (s := s) (r := r) (by rw [er]; exact hx.2.1)
  obtain ⟨n, v, g1, g2⟩ := read_sg (s := t) (r := q) (by rw [eq]; exact hy.2.1)
  obtain ⟨σ, T, k1, k2, k3, k4⟩ := sum_sg s t m n u v
  rw [← ex] at h1
  rw [← ey] at g1
  refine ⟨σ, T * 2 ^ min u v, ?_, ?_, ?_⟩
  · show (single.add x y).getD (qn .f32) = _
    unfold Format.add
    rw [h1, g1, k1, Option.map_some, Option.getD_some]
    show single.nearest σ T _ = _
    rw [near_up', near_sign]
  · refine Nat.le_trans k2 ?_
    rw [h2, g2, er, eq]
    exact Nat.add_le_add hx.2.2 hy.2.2
  · intro hne hN
    have hT : T = 0 := by
      rcases Nat.mul_eq_zero.1 hN with h | h
      · exact h
      · exact absurd h (Nat.ne_of_gt (Nat.two_pow_pos _))
    rw [k3 hT]
    cases hs : s with
    | false => rfl
    | true =>
      cases ht : t with
      | false => rfl
      | true =>
        exfalso
        have hm := k4 hT hs ht
        rw [hm, Nat.zero_mul] at h2
        have hr0 : r = 0 := by
          rcases Nat.eq_zero_or_pos r with h | h
          · exact h
          · have := uv_lt h; omega
        apply hne
        rw [ex, hs, hr0]
        decide +kernel
theorem nw_le_inf (n : Nat) : nw n ≤ 2139095040 := by
  by_cases h : n = 0
  · subst h; unfold nw Format.nearest; rw [if_pos rfl]; exact Nat.zero_le _
  · have h2 : nw n = single.word false (min (rungOf single false n (-149)) single.infRung) := write_number single false n (-149) h
    rw [h2, word_pos, s_inf]
    omega
theorem nw_zero_iff {n : Nat} (h : nw n = 0) : n = 0 := by
  rcases Nat.eq_zero_or_pos n with h0 | h0
  · exact h0
  · have h1 : uv 1 = 1 := by decide +kernel
    have := nw_ge (n := n) (y := 1) (by decide) (by omega)
    omega
theorem ub_add {x y a b : Nat} (z : Nat) (hx : Ub a x) (hy : Ub b y) (hz : z < 2139095040) (h : a + b ≤ uv z) : Ub (uv z) (fop .add .f32 x y) := by
  obtain ⟨σ, N, h1, h2, _⟩ := fadd_sg hx hy
  have h3 : nw N ≤ z := nw_le (by omega)
  rw [h1]
  exact ⟨word_lt32 (by omega), by rw [word_mod (by omega)]; omega, by rw [word_mod (by omega)]; exact uv_le h3⟩
theorem add_no_neg {x y a b : Nat} (hx : Ub a x) (hy : Ub b y) (hne : x ≠ 2147483648) : fop .add .f32 x y ≠ 2147483648 := by
  obtain ⟨σ, N, h1, _, h3⟩ := fadd_sg hx hy
  have hN := nw_le_inf N
  rw [h1]
  intro h
  cases hs : σ with
  | false =>
    rw [hs, word_pos] at h
    omega
  | true =>
    rw [hs] at h
    have h4 : single.word true (nw N) = 2147483648 + nw N := by unfold Format.word; rw [if_pos rfl, s_weight]
    have h5 := nw_zero_iff (n := N) (by omega)
    rw [h3 hne h5] at hs
    cases hs
theorem add_zero_sg {x a : Nat} (hx : Ub a x) (hne : x ≠ 2147483648) : fop .add .f32 x 0 = x := by
  obtain ⟨s, r, ex, er⟩ := word_parts hx.1
  have hr : r < 2139095040 := by rw [er]; exact hx.2.1
  obtain ⟨m, u, h1, h2⟩ := read_sg (s := s) hr
  rw [← ex] at h1
  have hz : single.read 0 = .number false 0 (-149) := by decide +kernel
  show (single.add x 0).getD (qn .f32) = _
  unfold Format.add
  rw [h1, hz]
  unfold Datum.sum
  dsimp only
  have e0 : min (-149 + (u : Int)) (-149) = -149 := by omega
  rw [e0]
  have e1 : (-149 + (u : Int) - -149).toNat = u := by omega
  have e2 : signed false 0 (-149 - -149 : Int).toNat = 0 := by unfold signed; simp
  rw [e1, e2, Int.add_zero, Option.map_some, Option.getD_some]
  have a1 := signed_natAbs s m u
  rw [h2] at a1
  have hN : ∀ σ, single.write (.number σ (signed s m u).natAbs (-149)) = single.word σ r := by
    intro σ
    show single.nearest _ _ _ = _
    rw [a1, near_sign, nw_uv (by omega)]
  rw [hN]
  by_cases h0 : signed s m u = 0
  · rw [if_pos h0]
    have hr0 : r = 0 := by
      rcases Nat.eq_zero_or_pos r with h | h
      · exact h
      · have := uv_lt h; rw [h0] at a1; simp at a1; omega
    subst hr0
    cases s with
    | false => rw [ex]; rfl
    | true => exact absurd (by rw [ex]; decide +kernel) hne
  · rw [if_neg h0]
    have : decide (signed s m u < 0) = s := by
      unfold signed at h0 ⊢
      rw [Nat.shiftLeft_eq] at h0 ⊢
      cases s with
      | false => rw [if_neg (by decide)] at h0 ⊢; exact decide_eq_false (by omega)
      | true => rw [if_pos rfl] at h0 ⊢; exact decide_eq_true (by omega)
    rw [this, ex]
theorem ub_mag {x : Nat} {k : Nat} (hx : x < 4294967296) (h : Mag k (single.read x)) : Ub (2 ^ (149 + k)) x := by
  obtain ⟨s, r, ex, er⟩ := word_parts hx
  by_cases hr : r < 2139095040
  · obtain ⟨m, u, h1, h2⟩ := read_sg (s := s) hr
    rw [← ex] at h1
    rw [h1] at h
    refine ⟨hx, by rw [← er]; exact hr, ?_⟩
    rw [← er, ← h2]
    rcases h with h | h
    · rw [h, Nat.zero_mul]; exact Nat.zero_le _
    · have h4 : m < 2 ^ (m.log2 + 1) := Nat.lt_log2_self
      have h5 : m * 2 ^ u ≤ 2 ^ (m.log2 + 1) * 2 ^ u := Nat.mul_le_mul_right _ (Nat.le_of_lt h4)
      rw [← Nat.pow_add] at h5
      exact Nat.le_trans h5 (Nat.pow_le_pow_right (by decide) (by omega))
  · exfalso
    have hf : ffin .f32 x = true := mag_fin h
    unfold ffin at hf
    have hf' : (match single.read x with | .number .. => true | _ => false) = true := hf
    rw [read_mod] at hf'
    unfold Format.read at hf'
    rw [s_weight, s_binade, s_inf] at hf'
    dsimp only at hf'
    rw [if_neg (by omega), if_neg (by omega)] at hf'
    split at hf'
    · rename_i h3; split at h3 <;> cases h3
    · cases hf'
theorem mag_ub {x k : Nat} (h : Ub (2 ^ k) x) : Mag ((k : Int) - 148) (single.read x) := by
  obtain ⟨s, r, ex, er⟩ := word_parts h.1
  obtain ⟨m, u, h1, h2⟩ := read_sg (s := s) (r := r) (by rw [er]; exact h.2.1)
  rw [← ex] at h1
  rw [h1]
  have h3 := h.2.2
  rw [← er, ← h2] at h3
  by_cases hm : m = 0
  · exact .inl hm
  · refine .inr ?_
    have h4 : 2 ^ m.log2 ≤ m := Nat.log2_self_le hm
    have h5 : 2 ^ (m.log2 + u) ≤ m * 2 ^ u := by
      rw [Nat.pow_add]; exact Nat.mul_le_mul_right _ h4
    have h7 := (Nat.pow_le_pow_iff_right (by decide : 1 < 2)).1 (Nat.le_trans h5 h3)
    omega
/-- a quotient that is not too small -/
theorem fquo_ge {x y z s : Nat} (hx : x < 2139095040) (h0 : 0 < x) (hy : y < 2139095040) (hy0 : 0 < y) (hz : z ≤ 2139095040) (hs : s ≤ 149) (huz : uv z = 2 ^ (149 - s)) (h : uv y ≤ uv x * 2 ^ s) : z ≤ fop .quo .f32 x y ∧ fop .quo .f32 x y ≤ 2139095040 := by
  obtain ⟨m, u, h1, h2⟩ := read_uv hx
  obtain ⟨n, v, g1, g2⟩ := read_uv hy
  have hn : n ≠ 0 := by
    intro hn
    subst hn
    have := uv_lt hy0
    omega
  have hm : m ≠ 0 := by
    intro hm
    subst hm
    have := uv_lt h0
    omega
  have e : fop .quo .f32 x y = (single.div x y).getD (qn .f32) := rfl
  rw [e]
  unfold Format.div
  rw [h1, g1]
  unfold Datum.quotient
  dsimp only
  rw [if_neg hn, Option.map_some, Option.getD_some]
  rw [show single.fractionBits + 2 = 25 from rfl]
  obtain ⟨more, hmore⟩ : ∃ more, more = 25 + n.log2 - m.log2 := ⟨_, rfl⟩
  rw [← hmore, Bool.xor_false]
  have hp : 0 < n := by omega
  have hq : 2 ^ (v + more + 1) ≤ (2 * ((m <<< more) / n) + ((m <<< more) % n != 0).toNat) * 2 ^ (u + s) := by
    rw [Nat.shiftLeft_eq]
    have h3 : n * 2 ^ (v + more) ≤ (m * 2 ^ more) * 2 ^ (u + s) := by
      rw [Nat.mul_right_comm, Nat.pow_add, ← Nat.mul_assoc, Nat.pow_add, ← Nat.mul_assoc, h2, g2]
      exact Nat.mul_le_mul_right _ h
    by_cases hu : u + s ≤ v + more
    · obtain ⟨E, hE⟩ : ∃ E, v + more = E + (u + s) := ⟨v + more - (u + s), by omega⟩
      rw [hE, Nat.pow_add, ← Nat.mul_assoc] at h3
      have h4 := Nat.le_of_mul_le_mul_right h3 (Nat.two_pow_pos _)
      have h5 : 2 ^ E ≤ m * 2 ^ more / n := (Nat.le_div_iff_mul_le hp).2 (by rw [Nat.mul_comm]; exact h4)
      rw [hE, show E + (u + s) + 1 = (E + 1) + (u + s) by omega, Nat.pow_add 2 (E + 1)]
      refine Nat.mul_le_mul_right _ ?_
      rw [Nat.pow_succ]
      omega
    · have h4 : 1 ≤ 2 * (m * 2 ^ more / n) + (m * 2 ^ more % n != 0).toNat := by
        by_cases hd : m * 2 ^ more % n = 0
        · have h6 : 0 < m * 2 ^ more / n := Nat.div_pos (Nat.le_of_dvd (Nat.mul_pos (by omega) (Nat.two_pow_pos _)) (Nat.dvd_of_mod_eq_zero hd)) hp
          omega
        · have : (m * 2 ^ more % n != 0) = true := by simp [hd]
          rw [this]; simp
      have h5 : 1 * 2 ^ (u + s) ≤ (2 * (m * 2 ^ more / n) + (m * 2 ^ more % n != 0).toNat) * 2 ^ (u + s) := Nat.mul_le_mul_right _ h4
      rw [Nat.one_mul] at h5
      exact Nat.le_trans (Nat.pow_le_pow_right (by decide) (by omega)) h5
  generalize 2 * ((m <<< more) / n) + ((m <<< more) % n != 0).toNat = Q at *
  show z ≤ single.nearest false _ _ ∧ single.nearest false _ _ ≤ _
  rw [show (-149 : Int) + u - (-149 + v) - more - 1 = (-149 - ((v + more + 1 : Nat) : Int)) + ((u + 149 : Nat) : Int) by omega, near_up]
  have h6 := near_ge single (n := Q * 2 ^ (u + 149)) (y := z) (d := v + more + 1) (by rw [s_inf]; exact hz) (by
    rw [s_binade, show units 8388608 z = uv z from rfl, huz, show u + 149 = (u + s) + (149 - s) by omega, Nat.pow_add 2 (u + s), ← Nat.mul_assoc, Nat.mul_comm (2 ^ (149 - s))]
    exact Nat.mul_le_mul_right _ hq)
  rw [s_least] at h6
  refine ⟨h6, ?_⟩
  by_cases hQ : Q * 2 ^ (u + 149) = 0
  · rw [hQ]; unfold Format.nearest; rw [if_pos rfl]; exact Nat.zero_le _
  · have h7 : single.nearest false (Q * 2 ^ (u + 149)) (-149 - ((v + more + 1 : Nat) : Int)) = single.word false (min (rungOf single false (Q * 2 ^ (u + 149)) (-149 - ((v + more + 1 : Nat) : Int))) single.infRung) := write_number single false _ _ hQ
    rw [h7, word_pos, s_inf]
    exact Nat.min_le_right _ _
theorem fquo_zero {y : Nat} (hy : y < 2139095040) (hy0 : 0 < y) : fop .quo .f32 0 y = 0 := by
  obtain ⟨n, v, g1, g2⟩ := read_uv hy
  have hn : n ≠ 0 := by
    intro hn
    subst hn
    have := uv_lt hy0
    omega
  have hz : single.read 0 = .number false 0 (-149) := by decide +kernel
  show (single.div 0 y).getD (qn .f32) = 0
  unfold Format.div
  rw [hz, g1]
  unfold Datum.quotient
  dsimp only
  rw [if_neg hn, Option.map_some, Option.getD_some]
  show single.nearest _ _ _ = _
  rw [Nat.zero_shiftLeft, Nat.zero_div, Nat.zero_mod]
  unfold Format.nearest
  rw [if_pos (by simp)]
  rfl
/-- whole numbers as words -/
theorem int_word {m : Int} (h : 1 ≤ m) : floatOfInt .f32 m = nw (m.toNat * 2 ^ 149) := by
  have h1 : (decide (m < 0)) = false := decide_eq_false (by omega)
  show single.write (.number (decide (m < 0)) m.natAbs 0) = _
  rw [h1, show m.natAbs = m.toNat by omega]
  show single.nearest false _ _ = _
  rw [show (0 : Int) = -149 + ((149 : Nat) : Int) by omega, near_up]
  rfl
theorem int_mag {m : Int} {k : Nat} (h0 : 0 ≤ m) (h : m.natAbs < 2 ^ k) (hk : k ≤ 100) : Mag ((k : Int) + 1) (single.read (floatOfInt .f32 m)) := by
  refine mag_write32 (d := .number (m < 0) m.natAbs 0) (k := (k : Int)) ?_ (by omega) (by omega)
  by_cases h2 : m.natAbs = 0
  · exact .inl h2
  · exact .inr (by have := (Nat.log2_lt h2).2 h; omega)
theorem int_ge {m : Int} (h : 1 ≤ m) : 1065353216 ≤ floatOfInt .f32 m := by
  rw [int_word h]
  refine nw_ge (by decide) ?_
  rw [uv_one]
  exact Nat.le_mul_of_pos_left _ (by omega)
end Go

namespace Go
open Ieee
theorem log2_mul23 {m : Nat} (hm : m ≠ 0) : (m * 8388608).log2 = m.log2 + 23 := by
  have h0 : m * 8388608 ≠ 0 := by omega
  refine (Nat.log2_eq_iff h0).2 ⟨?_, ?_⟩
  · have := Nat.log2_self_le hm
    rw [Nat.pow_add]; omega
  · have h1 : m < 2 ^ (m.log2 + 1) := Nat.lt_log2_self
    rw [show m.log2 + 23 + 1 = (m.log2 + 1) + 23 by omega, Nat.pow_add]; omega
theorem cut_mul23 (neg : Bool) {m : Nat} (hm : m ≠ 0) : Toward.even.cut neg (m * 8388608) 23 = m := by
  unfold Toward.cut
  dsimp only
  rw [log2_mul23 hm, Nat.min_eq_left (by omega), Nat.one_shiftLeft]
  have h1 : m * 8388608 / 2 ^ 23 = m := by rw [show (2 : Nat) ^ 23 = 8388608 by decide]; omega
  have h2 : m * 8388608 % 2 ^ 23 = 0 := by rw [show (2 : Nat) ^ 23 = 8388608 by decide]; omega
  rw [h1, h2]
  simp
theorem word32 (s : Bool) (r : Nat) : single.word s r = if s then 2147483648 + r else r := by
  have h1 : single.signWeight = 2147483648 := by decide +kernel
  unfold Format.word; rw [h1]
theorem near_mul23 (s : Bool) {m : Nat} {e : Int} (hm : m ≠ 0) (hl : m.log2 ≤ 23) (he : -149 ≤ e) (hh : m.log2 = 23 ∨ e = -149) :
    single.nearest s (m * 8388608) (e + -23) = single.word s (min ((e + 149).toNat * 8388608 + m) 2139095040) := by
  have h2 : single.binade = 8388608 := by decide +kernel
  have h3 : single.infRung = 2139095040 := by decide +kernel
  have h4 : single.leastPlace = -149 := by decide +kernel
  have h5 : (single.fractionBits : Int) = 23 := by decide +kernel
  unfold Format.nearest
  rw [if_neg (by omega), log2_mul23 hm, h2, h3, h4, h5]
  have hlast : max (e + -23 + ((m.log2 + 23 : Nat) : Int) - 23) (-149) = e := by
    push_cast
    rcases hh with h | h
    · rw [h]; omega
    · rw [h]; omega
  rw [hlast]
  have e1 : (e + -23 - e).toNat = 0 := by omega
  have e2 : (e - (e + -23)).toNat = 23 := by omega
  dsimp only
  rw [e1, e2, Nat.shiftLeft_zero, cut_mul23 s hm, show (e - -149).toNat = (e + 149).toNat by congr 1]
theorem prod_one (s : Bool) (m : Nat) (e : Int) : (Datum.number s m e).product (.number false 8388608 (-23)) = some (.number (s ^^ false) (m * 8388608) (e + -23)) := rfl
theorem write_near (s : Bool) (m : Nat) (e : Int) : single.write (.number s m e) = single.nearest s m e := rfl
theorem fop_mul32 (x y : Nat) : fop .mul .f32 x y = (single.mul x y).getD (qn .f32) := rfl
theorem fmul_one {x : Nat} (hx : x < 4294967296) (h : ffin .f32 x = true) : fop .mul .f32 x 1065353216 = x := by
  have r1 : single.read 1065353216 = .number false 8388608 (-23) := by decide +kernel
  unfold ffin at h
  have h' : (match single.read x with | .number .. => true | _ => false) = true := h
  rw [fop_mul32]
  unfold Format.mul
  rw [r1]
  rw [read32] at h' ⊢
  by_cases c1 : x % 2147483648 < 8388608
  · rw [if_pos c1]
    rw [prod_one, Option.map_some, Option.getD_some, write_near, Bool.xor_false]
    by_cases c0 : x % 2147483648 = 0
    · rw [c0, Nat.zero_mul]
      unfold Format.nearest
      rw [if_pos rfl, word32]
      by_cases hs : x / 2147483648 % 2 = 1
      · rw [if_pos (by simpa using hs)]; omega
      · rw [if_neg (by simpa using hs)]; omega
    · rw [near_mul23 _ c0 (by have := (Nat.log2_lt (k := 24) c0).2 (by omega); omega) (by omega) (.inr rfl), word32]
      rw [show ((-149 : Int) + 149).toNat = 0 by decide, Nat.zero_mul, Nat.zero_add, Nat.min_eq_left (by omega)]
      by_cases hs : x / 2147483648 % 2 = 1
      · rw [if_pos (by simpa using hs)]; omega
      · rw [if_neg (by simpa using hs)]; omega
  · rw [if_neg c1] at h' ⊢
    by_cases c2 : x % 2147483648 < 2139095040
    · rw [if_pos c2]
      obtain ⟨q, hq⟩ : ∃ q, x % 2147483648 / 8388608 = q := ⟨_, rfl⟩
      obtain ⟨r, hr⟩ : ∃ r, x % 2147483648 % 8388608 = r := ⟨_, rfl⟩
      have hr1 : r < 8388608 := by omega
      have hq1 : 1 ≤ q := by omega
      have hd : x % 2147483648 = 8388608 * q + r := by omega
      rw [hq, hr]
      rw [prod_one, Option.map_some, Option.getD_some, write_near, Bool.xor_false]
      have hlog : (8388608 + r).log2 = 23 := (Nat.log2_eq_iff (by omega)).2 ⟨by omega, by omega⟩
      rw [near_mul23 _ (by omega) (by omega) (by omega) (.inl hlog), word32]
      rw [show ((-149 : Int) + ((q - 1 : Nat) : Int) + 149).toNat = q - 1 by omega, Nat.min_eq_left (by omega)]
      by_cases hs : x / 2147483648 % 2 = 1
      · rw [if_pos (by simpa using hs)]; omega
      · rw [if_neg (by simpa using hs)]; omega
    · rw [if_neg c2] at h'
      split at h'
      · rename_i h3; split at h3 <;> cases h3
      · cases h'
end Go

