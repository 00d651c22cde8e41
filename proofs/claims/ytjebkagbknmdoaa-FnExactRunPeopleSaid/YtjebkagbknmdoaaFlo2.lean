/- Floats: exact words, order by units, signs; calls of body-less functions. -/
import Derived.Test.YtjebkagbknmdoaaFlo
namespace Go
open Ieee

/-- A NUMBER THAT THE FORMAT HAS is read back as it was written. -/
theorem read_write_exact (f : Format) (s : Bool) (m : Nat) (e : Int) (hm : m ≠ 0) (h1 : m < 2 * f.binade) (h2 : f.leastPlace ≤ e)
    (h3 : e + m.log2 + 3 ≤ ((2 ^ f.exponentBits : Nat) : Int) + f.fractionBits + f.leastPlace) (hE : 3 ≤ 2 ^ f.exponentBits) :
    ∃ last : Int, last = max (e + m.log2 - f.fractionBits) f.leastPlace ∧ last ≤ e ∧ f.read (f.write (.number s m e)) = .number s (m <<< (e - last).toNat) last := by
  have hB : 0 < f.binade := Nat.two_pow_pos _
  have hl2 : m.log2 ≤ f.fractionBits := by
    have : m < 2 ^ (f.fractionBits + 1) := by rw [Nat.pow_succ]; unfold Format.binade at h1; omega
    have := (Nat.log2_lt hm).2 this
    omega
  refine ⟨_, rfl, by rw [Int.max_le]; omega, ?_⟩
  rw [write_number f s m e hm]
  unfold rungOf
  dsimp only
  have hle : max (e + m.log2 - f.fractionBits) f.leastPlace ≤ e := by rw [Int.max_le]; omega
  have hge1 : e + m.log2 - f.fractionBits ≤ max (e + m.log2 - f.fractionBits) f.leastPlace := Int.le_max_left _ _
  have hge2 : f.leastPlace ≤ max (e + m.log2 - f.fractionBits) f.leastPlace := Int.le_max_right _ _
  have hor : max (e + m.log2 - f.fractionBits) f.leastPlace = e + m.log2 - f.fractionBits ∨ max (e + m.log2 - f.fractionBits) f.leastPlace = f.leastPlace := by omega
  generalize max (e + m.log2 - f.fractionBits) f.leastPlace = last at *
  have hz : (last - e).toNat = 0 := by omega
  rw [hz, cut_zero, Nat.shiftLeft_eq]
  have hlo : 2 ^ m.log2 ≤ m := Nat.log2_self_le hm
  have hhi : m < 2 ^ (m.log2 + 1) := Nat.lt_log2_self
  have hk1 : m * 2 ^ (e - last).toNat < 2 * f.binade := by
    have : m * 2 ^ (e - last).toNat < 2 ^ (m.log2 + 1) * 2 ^ (e - last).toNat := Nat.mul_lt_mul_of_pos_right hhi (Nat.two_pow_pos _)
    rw [← Nat.pow_add] at this
    have e2 : 2 * f.binade = 2 ^ (f.fractionBits + 1) := by unfold Format.binade; rw [Nat.pow_succ]; omega
    rw [e2]
    exact Nat.lt_of_lt_of_le this (Nat.pow_le_pow_right (by decide) (by omega))
  have hinf : (last - f.leastPlace).toNat * f.binade + m * 2 ^ (e - last).toNat < f.infRung := by
    unfold Format.infRung
    refine Nat.lt_of_lt_of_le (Nat.add_lt_add_left hk1 _) ?_
    rw [← Nat.add_mul]
    exact Nat.mul_le_mul_right _ (by omega)
  rw [Nat.min_eq_left (by omega), read_word f s hinf]
  rcases hor with ho | ho
  · have hk2 : f.binade ≤ m * 2 ^ (e - last).toNat := by
      have : 2 ^ m.log2 * 2 ^ (e - last).toNat ≤ m * 2 ^ (e - last).toNat := Nat.mul_le_mul_right _ hlo
      rw [← Nat.pow_add] at this
      refine Nat.le_trans ?_ this
      unfold Format.binade
      exact Nat.pow_le_pow_right (by decide) (by omega)
    rw [if_neg (by omega)]
    obtain ⟨c, hc⟩ : ∃ c, m * 2 ^ (e - last).toNat = f.binade + c := ⟨_, (Nat.add_sub_cancel' hk2).symm⟩
    have hcl : c < f.binade := by omega
    rw [hc, show (last - f.leastPlace).toNat * f.binade + (f.binade + c) = c + ((last - f.leastPlace).toNat + 1) * f.binade by rw [Nat.add_mul]; omega]
    rw [Nat.add_mul_mod_self_right, Nat.add_mul_div_right _ _ hB, Nat.mod_eq_of_lt hcl, Nat.div_eq_of_lt hcl]
    congr 1
    omega
  · have h0 : (last - f.leastPlace).toNat = 0 := by omega
    rw [h0, Nat.zero_mul, Nat.zero_add]
    split
    · rw [ho]
    · rename_i hnb
      have hdiv : m * 2 ^ (e - last).toNat / f.binade = 1 := by
        rw [Nat.div_eq_iff hB]; omega
      have hmod : f.binade + m * 2 ^ (e - last).toNat % f.binade = m * 2 ^ (e - last).toNat := by
        have := Nat.div_add_mod (m * 2 ^ (e - last).toNat) f.binade
        rw [hdiv] at this; omega
      rw [hdiv, hmod]
      congr 1
      omega

theorem signed_scale (s : Bool) (m u v : Nat) : signed s m (u + v) = signed s m u * (2 ^ v : Nat) := by
  unfold signed
  cases s <;> simp [Nat.shiftLeft_eq, Nat.pow_add] <;> push_cast <;> simp [Int.mul_assoc, Int.neg_mul]

theorem compare_scale (a b : Int) (v : Nat) : compare (a * (2 ^ v : Nat)) (b * (2 ^ v : Nat)) = compare a b := by
  have hp : (0 : Int) < ((2 ^ v : Nat) : Int) := by have := Nat.two_pow_pos v; omega
  simp only [compare, compareOfLessAndEq]
  have h1 : (a * ((2 ^ v : Nat) : Int) < b * ((2 ^ v : Nat) : Int)) ↔ a < b := Int.mul_lt_mul_right hp
  have h2 : (a * ((2 ^ v : Nat) : Int) = b * ((2 ^ v : Nat) : Int)) ↔ a = b := Int.mul_eq_mul_right_iff (by omega)
  simp only [h1, h2]

/-- Two numbers, held against each other in whatever unit that both are multiples of. -/
theorem order_units (s t : Bool) (m n : Nat) (i j b : Int) (hi : b ≤ i) (hj : b ≤ j) :
    Datum.order (.number s m i) (.number t n j) = some (compare (signed s m (i - b).toNat) (signed t n (j - b).toNat)) := by
  show some (compare (signed s m (i - min i j).toNat) (signed t n (j - min i j).toNat)) = _
  have hb : b ≤ min i j := by omega
  obtain ⟨v, hv⟩ : ∃ v : Nat, min i j = b + v := ⟨(min i j - b).toNat, by omega⟩
  have e1 : (i - b).toNat = (i - min i j).toNat + v := by omega
  have e2 : (j - b).toNat = (j - min i j).toNat + v := by omega
  rw [e1, e2, signed_scale, signed_scale, compare_scale]

def fsqrt (x : Nat) : Nat := (double.sqrt x).getD (qn .f64)
theorem fsqrt_same {x y : Nat} (h : FS .f64 x y) : fsqrt x = fsqrt y := by
  rcases h with rfl | ⟨a, b⟩
  · rfl
  · obtain ⟨s, t, e⟩ := fnan_read a
    obtain ⟨s', t', e'⟩ := fnan_read b
    have e1 : double.read x = .nan s t := e
    have e2 : double.read y = .nan s' t' := e'
    unfold fsqrt Format.sqrt; rw [e1, e2]; rfl

section
variable {P : Program} (w : World)
theorem run_sqrt (x : Nat) : ∃ r n, (Extern.MathSqrt.sqrt #[.float .f64 x]).run P w = .ok (.float .f64 r) (w.drewN n) ∧ FR .f64 r (fsqrt x) := by
  have hx : Extern.MathSqrt.sqrt #[.float .f64 x] = (match double.sqrt x with
    | some r => pure (.float .f64 r)
    | none => do pure (.float .f64 (← choose (.nanBits .f64 x x)))) := rfl
  rw [hx]
  cases h : double.sqrt x with
  | some r => exact ⟨r, 0, rfl, by unfold fsqrt; rw [h]; exact .inl rfl, double.sqrt_lt h⟩
  | none =>
    refine ⟨(Question.nanBits .f64 x x).cut (w.tape w.drawn (.nanBits .f64 x x)), 1, ?_, .inr ⟨cut_nan _ _ _ _, by unfold fsqrt; rw [h]; exact fnan_qn _⟩, cut_nan_lt _ _ _ _⟩
    simp [Question.forced]; rfl

/-- a call of a function without a body, of one argument -/
theorem wpList_ext1 {ops : Array Oper} {rest : List Oper} {o : Oper} {a : Act} {Q : Exit → Act → World → Prop} (hgd : Region.wanted o (yielded ops a.tmps) = true) (f : FuncId) (x : Operand) (ts : Array TypeId)
    (ho : o.op = .call { callee := .value (.func f), args := #[x], argTypes := ts }) (v : Value) (hx : a.eval x = v) (S : Value → Prop)
    (hrun : ∀ w, ∃ u n, (callFunc f #[v]).run P w = .ok (.value u) (w.drewN n) ∧ S u)
    (h : ∀ u n, S u → wpList P ops Q rest (a.put o.dst u) (w.drewN n)) : wpList P ops Q (o :: rest) a w :=
  wpList_want hgd fun K hK => by
    obtain ⟨u, n, hr, hs⟩ := hrun w
    unfold Oper.wp execOp
    simp only [ho]
    have e : (do let d ← resolve a.eval { callee := .value (.func f), args := #[x], argTypes := ts } o.type; invoke d.target d.args : Sem Next) = callFunc f #[v] := by
      simp only [resolve, List.map_toArray, List.map_cons, List.map_nil, hx]
      rfl
    rw [e, hr]
    exact hK _ _ (h u n hs)
end
end Go
