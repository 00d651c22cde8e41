import Derived.WalkKit
import Derived.WalkLawsBesides
import Derived.Laws.FloatArith
import Derived.Deep.Draws
import Derived.Below
import Derived.Test.YtjndhcdanpnniaaSlb
namespace Go
open Ieee


/-- a NaN of its kind -/
def fnan (k : FloatKind) (x : Nat) : Bool := (k.format.read x).isNaN
/-- the same number: equal bits, or two not-a-numbers -/
def FS (k : FloatKind) (x y : Nat) : Prop := x = y ∨ (fnan k x = true ∧ fnan k y = true)

theorem FS.refl (k : FloatKind) (x : Nat) : FS k x x := .inl rfl
theorem FS.symm {k : FloatKind} {x y : Nat} (h : FS k x y) : FS k y x := by
  rcases h with rfl | ⟨a, b⟩
  · exact .inl rfl
  · exact .inr ⟨b, a⟩
theorem FS.trans {k : FloatKind} {x y z : Nat} (h : FS k x y) (g : FS k y z) : FS k x z := by
  rcases h with rfl | ⟨a, b⟩
  · exact g
  · rcases g with rfl | ⟨_, d⟩
    · exact .inr ⟨a, b⟩
    · exact .inr ⟨a, d⟩

theorem fnan_read {k : FloatKind} {x : Nat} (h : fnan k x = true) : ∃ s t, k.format.read x = .nan s t := by
  unfold fnan at h
  cases hr : k.format.read x with
  | number s m e => rw [hr] at h; cases h
  | infinity s => rw [hr] at h; cases h
  | nan s t => exact ⟨s, t, rfl⟩

theorem order_same {k : FloatKind} {x x' y y' : Nat} (hx : FS k x x') (hy : FS k y y') : k.format.order x y = k.format.order x' y' := by
  rcases hx with rfl | ⟨a, b⟩
  · rcases hy with rfl | ⟨c, d⟩
    · rfl
    · obtain ⟨s, t, e⟩ := fnan_read c; obtain ⟨s', t', e'⟩ := fnan_read d
      unfold Format.order; rw [e, e']
      cases k.format.read x <;> rfl
  · obtain ⟨s, t, e⟩ := fnan_read a; obtain ⟨s', t', e'⟩ := fnan_read b
    unfold Format.order; rw [e, e']; rfl

theorem floatBits_nan_l {op : BinOp} {k : FloatKind} {x y : Nat} (h : fnan k x = true) : floatBits op k x y = none := by
  obtain ⟨s, t, e⟩ := fnan_read h
  unfold floatBits
  cases op <;> simp [Format.add, Format.sub, Format.mul, Format.div, e, Datum.sum, Datum.product, Datum.quotient]
theorem floatBits_nan_r {op : BinOp} {k : FloatKind} {x y : Nat} (h : fnan k y = true) : floatBits op k x y = none := by
  obtain ⟨s, t, e⟩ := fnan_read h
  unfold floatBits
  cases op <;> simp only [Format.add, Format.sub, Format.mul, Format.div, e, Datum.opposite] <;> cases k.format.read x <;> simp [Datum.sum, Datum.product, Datum.quotient]

theorem floatBits_same {op : BinOp} {k : FloatKind} {x x' y y' : Nat} (hx : FS k x x') (hy : FS k y y') : floatBits op k x y = floatBits op k x' y' := by
  rcases hx with rfl | ⟨a, b⟩
  · rcases hy with rfl | ⟨c, d⟩
    · rfl
    · rw [floatBits_nan_r c, floatBits_nan_r d]
  · rw [floatBits_nan_l a, floatBits_nan_l b]

/-- the not-a-number that stands for all -/
def qn : FloatKind → Nat
  | .f32 => 2143289344
  | .f64 => 9221120237041090560
theorem fnan_qn (k : FloatKind) : fnan k (qn k) = true := by cases k <;> decide +kernel
/-- an operation's number, where each not-a-number is 'qn' -/
def fop (op : BinOp) (k : FloatKind) (x y : Nat) : Nat := (floatBits op k x y).getD (qn k)
theorem fop_same {op : BinOp} {k : FloatKind} {x x' y y' : Nat} (hx : FS k x x') (hy : FS k y y') : fop op k x y = fop op k x' y' := by
  unfold fop; rw [floatBits_same hx hy]

theorem read_nan {f : Format} {x : Nat} (h : f.infRung < x % f.signWeight) (hb : f.binade ≤ f.infRung) : ∃ s t, f.read x = .nan s t := by
  unfold Format.read
  dsimp only
  rw [if_neg (by omega), if_neg (by omega), if_neg (by omega)]
  exact ⟨_, _, rfl⟩
theorem isNaN_of_read {k : FloatKind} {x : Nat} (h : ∃ s t, k.format.read x = .nan s t) : fnan k x = true := by
  obtain ⟨s, t, e⟩ := h
  unfold fnan; rw [e]; rfl
theorem nan32_of {x : Nat} (h : 2139095040 < x % 2147483648) : fnan .f32 x = true :=
  isNaN_of_read (read_nan (f := single) (by show 2139095040 < _; exact h) (by decide +kernel))
theorem nan64_of {x : Nat} (h : 9218868437227405312 < x % 9223372036854775808) : fnan .f64 x = true :=
  isNaN_of_read (read_nan (f := double) (by show 9218868437227405312 < _; exact h) (by decide +kernel))
theorem cut_nan (k : FloatKind) (x y t : Nat) : fnan k ((Question.nanBits k x y).cut t) = true := by
  cases k
  · refine nan32_of ?_
    simp only [Question.cut, Nat.reducePow, Nat.reduceSub]; rcases (by omega : t % 2 = 0 ∨ t % 2 = 1) with h | h <;> rw [h] <;> omega
  · refine nan64_of ?_
    simp only [Question.cut, Nat.reducePow, Nat.reduceSub]; rcases (by omega : t % 2 = 0 ∨ t % 2 = 1) with h | h <;> rw [h] <;> omega
theorem cut_nanConv (k : FloatKind) (x t : Nat) : fnan k ((Question.nanConv k x).cut t) = true := by
  cases k
  · refine nan32_of ?_
    simp only [Question.cut, Nat.reducePow, Nat.reduceSub]; rcases (by omega : t % 2 = 0 ∨ t % 2 = 1) with h | h <;> rw [h] <;> omega
  · refine nan64_of ?_
    simp only [Question.cut, Nat.reducePow, Nat.reduceSub]; rcases (by omega : t % 2 = 0 ∨ t % 2 = 1) with h | h <;> rw [h] <;> omega

/-- the words of a kind -/
def flim : FloatKind → Nat
  | .f32 => 4294967296
  | .f64 => 18446744073709551616
theorem flim_of {k : FloatKind} {r : Nat} (h : r < 2 ^ k.format.width) : r < flim k := by cases k <;> exact h
theorem cut_nan_lt (k : FloatKind) (x y t : Nat) : (Question.nanBits k x y).cut t < flim k := by
  cases k <;> simp only [Question.cut, flim, Nat.reducePow, Nat.reduceSub] <;> rcases (by omega : t % 2 = 0 ∨ t % 2 = 1) with h | h <;> rw [h] <;> omega
theorem cut_nanConv_lt (k : FloatKind) (x t : Nat) : (Question.nanConv k x).cut t < flim k := by
  cases k <;> simp only [Question.cut, flim, Nat.reducePow, Nat.reduceSub] <;> rcases (by omega : t % 2 = 0 ∨ t % 2 = 1) with h | h <;> rw [h] <;> omega
/-- a word of its kind, the same number as v -/
def FR (k : FloatKind) (r v : Nat) : Prop := FS k r v ∧ r < flim k
theorem FR.same {k : FloatKind} {r v : Nat} (h : FR k r v) : FS k r v := h.1
theorem FR.lt {k : FloatKind} {r v : Nat} (h : FR k r v) : r < flim k := h.2

section
variable {P : Program} (w : World)
theorem run_far (op : BinOp) (ho : op = .add ∨ op = .sub ∨ op = .mul ∨ op = .quo) (t : TypeId) (k : FloatKind) (x y : Nat) :
    ∃ r n, (binOp op t (.float k x) (.float k y)).run P w = .ok (.float k r) (w.drewN n) ∧ FR k r (fop op k x y) := by
  cases h : floatBits op k x y with
  | some r =>
    exact ⟨r, 0, run_float_arith w op t k x y r h, by unfold fop; rw [h]; exact .inl rfl, by
      have := floatBits_wf h
      cases k <;> simpa [Lit.wf, flim] using this⟩
  | none =>
    refine ⟨(Question.nanBits k x y).cut (w.tape w.drawn (.nanBits k x y)), 1, ?_, .inr ⟨cut_nan _ _ _ _, by unfold fop; rw [h]; exact fnan_qn k⟩, cut_nan_lt _ _ _ _⟩
    unfold floatBits at h
    rcases ho with rfl | rfl | rfl | rfl <;> simp only at h <;> simp [binOp, Op.floatArith, h, Question.forced] <;> rfl

theorem wpList_want {w : World} {ops : Array Oper} {rest : List Oper} {o : Oper} {a : Act} {Q : Exit → Act → World → Prop} (hw : Region.wanted o (yielded ops a.tmps) = true)
    (h : ∀ K : Act → World → Prop, (∀ a w, wpList P ops Q rest a w → K a w) → o.wp P a w K Q) : wpList P ops Q (o :: rest) a w :=
  wpList_step fun K hK => by rw [if_pos hw]; exact h K hK

theorem wpList_far {ops : Array Oper} {rest : List Oper} {o : Oper} {a : Act} {Q : Exit → Act → World → Prop} (hgd : Region.wanted o (yielded ops a.tmps) = true) (op : BinOp) (x y : Operand) (t u : TypeId)
    (ho : o.op = .binOp op t x y u) (hop : op = .add ∨ op = .sub ∨ op = .mul ∨ op = .quo) (k : FloatKind) (p q : Nat) (hx : a.eval x = .float k p) (hy : a.eval y = .float k q)
    (h : ∀ r n, FR k r (fop op k p q) → wpList P ops Q rest (a.put o.dst (.float k r)) (w.drewN n)) : wpList P ops Q (o :: rest) a w :=
  wpList_want hgd fun K hK => by
    obtain ⟨r, n, hr, hs⟩ := run_far (P := P) w op hop t k p q
    unfold Oper.wp execOp
    simp only [ho, hx, hy]
    have hg : eqGuard op t x y (.float k p) (.float k q) = pure () := by
      rcases hop with rfl | rfl | rfl | rfl <;> rfl
    simp only [hg, Sem.run_bind, Sem.run_pure, Result.andThen_ok, hr]
    exact hK _ _ (h r n hs)
end

/-! ### order -/
theorem order_refl {k : FloatKind} {x : Nat} (h : fnan k x = false) : k.format.order x x = some .eq := by
  unfold fnan at h
  unfold Format.order
  cases hr : k.format.read x with
  | number s m e => simp [Datum.order]
  | infinity s => simp [Datum.order]
  | nan s t => rw [hr] at h; cases h
theorem order_nan_l {k : FloatKind} {x y : Nat} (h : fnan k x = true) : k.format.order x y = none := by
  obtain ⟨s, t, e⟩ := fnan_read h
  unfold Format.order; rw [e]; rfl
theorem order_nan_r {k : FloatKind} {x y : Nat} (h : fnan k y = true) : k.format.order x y = none := by
  obtain ⟨s, t, e⟩ := fnan_read h
  unfold Format.order; rw [e]; cases k.format.read x <;> rfl
theorem fnan_of_self {k : FloatKind} {x : Nat} : (k.format.order x x != some .eq) = fnan k x := by
  cases h : fnan k x
  · rw [order_refl h]; rfl
  · rw [order_nan_l h]; rfl
theorem fnan_same {k : FloatKind} {x y : Nat} (h : FS k x y) : fnan k x = fnan k y := by
  rcases h with rfl | ⟨a, b⟩
  · rfl
  · rw [a, b]

/-! ### rounding stays small -/
/-- less than 2 ^ k -/
def Mag (k : Int) : Datum → Prop
  | .number _ m e => m = 0 ∨ e + m.log2 < k
  | _ => False

theorem log2_le_of_lt {m n : Nat} (h : m < 2 ^ n) (hm : m ≠ 0) : m.log2 < n := by
  exact (Nat.log2_lt hm).2 h

theorem cut_le (neg : Bool) (n drop B : Nat) (h : n < B * 2 ^ drop) : Toward.even.cut neg n drop ≤ B := by
  unfold Toward.cut
  dsimp only
  rw [Nat.one_shiftLeft]
  by_cases hd : drop ≤ n.log2 + 2
  · rw [Nat.min_eq_left hd]
    have h1 : n / 2 ^ drop < B := (Nat.div_lt_iff_lt_mul (Nat.two_pow_pos _)).2 h
    have h2 : ∀ b : Bool, b.toNat ≤ 1 := fun b => by cases b <;> decide
    have := h2 (decide (2 ^ drop < 2 * (n % 2 ^ drop)) || 2 ^ drop == 2 * (n % 2 ^ drop) && n / 2 ^ drop % 2 == 1)
    omega
  · rw [Nat.min_eq_right (by omega)]
    have h0 : n < 2 ^ (n.log2 + 1) := Nat.lt_log2_self
    have h1 : 2 ^ (n.log2 + 2) = 2 * 2 ^ (n.log2 + 1) := by rw [Nat.pow_succ 2 (n.log2 + 1)]; omega
    rw [h1, Nat.div_eq_of_lt (by omega), Nat.mod_eq_of_lt (by omega)]
    have h2 : decide (2 * 2 ^ (n.log2 + 1) < 2 * n) = false := by simp; omega
    have h3 : (2 * 2 ^ (n.log2 + 1) == 2 * n) = false := by simp; omega
    rw [h2, h3]
    simp
theorem cut_zero (neg : Bool) (n : Nat) : Toward.even.cut neg n 0 = n := by
  unfold Toward.cut
  simp [Nat.mod_one]

theorem read_word (f : Format) (neg : Bool) {rung : Nat} (h : rung < f.infRung) :
    f.read (f.word neg rung) = if rung < f.binade then .number neg rung f.leastPlace else .number neg (f.binade + rung % f.binade) (f.leastPlace + (rung / f.binade - 1 : Nat)) := by
  have hs := f.infRung_lt
  have hp : 0 < f.signWeight := by omega
  have e1 : f.word neg rung % f.signWeight = rung := by
    unfold Format.word
    split
    · rw [Nat.add_mod_left, Nat.mod_eq_of_lt (by omega)]
    · exact Nat.mod_eq_of_lt (by omega)
  have e2 : (f.word neg rung / f.signWeight % 2 == 1) = neg := by
    unfold Format.word
    cases neg
    · simp [Nat.div_eq_of_lt (show rung < f.signWeight by omega)]
    · have : (f.signWeight + rung) / f.signWeight = 1 := by
        rw [Nat.add_div_left _ hp, Nat.div_eq_of_lt (by omega)]
      simp [this]
  unfold Format.read
  dsimp only
  rw [e1, e2, if_pos h]

/-- the rung of the nearest word, before it is held to infinity -/
def rungOf (f : Format) (neg : Bool) (mag : Nat) (place : Int) : Nat :=
  let last := max (place + mag.log2 - f.fractionBits) f.leastPlace
  (last - f.leastPlace).toNat * f.binade + Toward.even.cut neg (mag <<< (place - last).toNat) (last - place).toNat

theorem rungOf_le (f : Format) (neg : Bool) (mag : Nat) (place : Int) (_hm : mag ≠ 0) :
    rungOf f neg mag place ≤ ((max (place + mag.log2 - f.fractionBits) f.leastPlace - f.leastPlace).toNat + 2) * f.binade := by
  unfold rungOf
  dsimp only
  have h0 : mag < 2 ^ (mag.log2 + 1) := Nat.lt_log2_self
  have hk : Toward.even.cut neg (mag <<< (place - max (place + mag.log2 - f.fractionBits) f.leastPlace).toNat) (max (place + mag.log2 - f.fractionBits) f.leastPlace - place).toNat ≤ 2 * f.binade := by
    refine cut_le _ _ _ _ ?_
    rw [Nat.shiftLeft_eq]
    have hl : place + mag.log2 - f.fractionBits ≤ max (place + mag.log2 - f.fractionBits) f.leastPlace := Int.le_max_left _ _
    generalize max (place + mag.log2 - f.fractionBits) f.leastPlace = last at *
    have hb : 2 * f.binade = 2 ^ (f.fractionBits + 1) := by unfold Format.binade; rw [Nat.pow_succ]; omega
    rw [hb, ← Nat.pow_add]
    have h1 : mag * 2 ^ (place - last).toNat < 2 ^ (mag.log2 + 1) * 2 ^ (place - last).toNat := Nat.mul_lt_mul_of_pos_right h0 (Nat.two_pow_pos _)
    rw [← Nat.pow_add] at h1
    exact Nat.lt_of_lt_of_le h1 (Nat.pow_le_pow_right (by decide) (by omega))
  rw [Nat.add_mul]
  omega

theorem write_number (f : Format) (neg : Bool) (mag : Nat) (place : Int) (hm : mag ≠ 0) : f.write (.number neg mag place) = f.word neg (min (rungOf f neg mag place) f.infRung) := by
  show f.nearest neg mag place = _
  unfold Format.nearest
  rw [if_neg hm]
  rfl

theorem infRung_pos (f : Format) (h : 2 ≤ (2 : Nat) ^ f.exponentBits) : 0 < f.infRung := by
  have hB : 0 < f.binade := Nat.two_pow_pos _
  unfold Format.infRung
  exact Nat.mul_pos (by omega) hB

/-- ROUNDING: what is less than 2 ^ k is written as a finite word of at most 2 ^ k. -/
theorem mag_write (f : Format) (d : Datum) (k : Int) (h : Mag k d) (h1 : f.leastPlace + f.fractionBits + 1 ≤ k) (h2 : k + 3 ≤ ((2 ^ f.exponentBits : Nat) : Int) + f.fractionBits + f.leastPlace) :
    Mag (k + 1) (f.read (f.write d)) := by
  have hB : 0 < f.binade := Nat.two_pow_pos _
  have hi : 0 < f.infRung := infRung_pos f (by omega)
  cases d with
  | infinity s => exact h.elim
  | nan s t => exact h.elim
  | number neg mag place =>
    by_cases hm : mag = 0
    · subst hm
      have : f.write (.number neg 0 place) = f.word neg 0 := by
        show f.nearest neg 0 place = _
        unfold Format.nearest; simp
      rw [this, read_word f neg hi, if_pos hB]
      exact .inl rfl
    · have hk : place + mag.log2 < k := by
        rcases h with h | h
        · exact absurd h hm
        · exact h
      have hr := rungOf_le f neg mag place hm
      rw [write_number f neg mag place hm]
      have hl : max (place + mag.log2 - f.fractionBits) f.leastPlace < k - f.fractionBits := by
        rw [Int.max_lt]; omega
      have hl2 : f.leastPlace ≤ max (place + mag.log2 - f.fractionBits) f.leastPlace := Int.le_max_right _ _
      generalize max (place + mag.log2 - f.fractionBits) f.leastPlace = last at *
      generalize rungOf f neg mag place = rung at *
      have hlt : rung < f.infRung := by
        refine Nat.lt_of_le_of_lt hr ?_
        unfold Format.infRung
        exact Nat.mul_lt_mul_of_pos_right (by omega) hB
      rw [Nat.min_eq_left (by omega), read_word f neg hlt]
      have hq : rung / f.binade ≤ (last - f.leastPlace).toNat + 2 := (Nat.div_le_iff_le_mul_add_pred hB).2 (by rw [Nat.mul_comm]; omega)
      have hlog : ∀ n, n < 2 * f.binade → n ≠ 0 → n.log2 ≤ f.fractionBits := by
        intro n hn h0
        have : n < 2 ^ (f.fractionBits + 1) := by rw [Nat.pow_succ]; unfold Format.binade at hn; omega
        have := (Nat.log2_lt h0).2 this
        omega
      split
      · rename_i hs
        by_cases h0 : rung = 0
        · exact .inl h0
        · refine .inr ?_
          have := hlog rung (by omega) h0
          omega
      · rename_i hs
        refine .inr ?_
        have hm2 : rung % f.binade < f.binade := Nat.mod_lt _ hB
        have := hlog (f.binade + rung % f.binade) (by omega) (by omega)
        have h3 : 1 ≤ rung / f.binade := (Nat.le_div_iff_mul_le hB).2 (by omega)
        omega

theorem mag_mono {d : Datum} {j k : Int} (h : Mag j d) (hk : j ≤ k) : Mag k d := by
  cases d with
  | number s m e =>
    rcases h with h | h
    · exact .inl h
    · exact .inr (by omega)
  | _ => exact h.elim
theorem mag_write64 {d : Datum} {k : Int} (h : Mag k d) (h1 : -1021 ≤ k) (h2 : k ≤ 1023) : Mag (k + 1) (double.read (double.write d)) :=
  mag_write double d k h (by show (2 - 2 ^ 10 - 52 : Int) + 52 + 1 ≤ k; omega) (by show k + 3 ≤ (2048 : Int) + 52 + (2 - 2 ^ 10 - 52 : Int); omega)
theorem mag_write32 {d : Datum} {k : Int} (h : Mag k d) (h1 : -125 ≤ k) (h2 : k ≤ 127) : Mag (k + 1) (single.read (single.write d)) :=
  mag_write single d k h (by show (2 - 2 ^ 7 - 23 : Int) + 23 + 1 ≤ k; omega) (by show k + 3 ≤ (256 : Int) + 23 + (2 - 2 ^ 7 - 23 : Int); omega)

theorem log2_mul_le (m n : Nat) (hm : m ≠ 0) (hn : n ≠ 0) : (m * n).log2 ≤ m.log2 + n.log2 + 1 := by
  have h1 : m < 2 ^ (m.log2 + 1) := Nat.lt_log2_self
  have h2 : n < 2 ^ (n.log2 + 1) := Nat.lt_log2_self
  have h3 : m * n < 2 ^ (m.log2 + 1) * 2 ^ (n.log2 + 1) := Nat.mul_lt_mul_of_lt_of_lt h1 h2
  rw [← Nat.pow_add] at h3
  have := (Nat.log2_lt (Nat.mul_ne_zero hm hn)).2 h3
  omega
theorem mag_product {a b : Datum} {j k : Int} (ha : Mag j a) (hb : Mag k b) : ∃ d, a.product b = some d ∧ Mag (j + k) d := by
  cases a with
  | number s m i =>
    cases b with
    | number t n e =>
      refine ⟨_, rfl, ?_⟩
      by_cases hm : m = 0
      · subst hm; exact .inl (Nat.zero_mul _)
      · by_cases hn : n = 0
        · subst hn; exact .inl (Nat.mul_zero _)
        · have h1 : i + m.log2 < j := by rcases ha with h | h; exact absurd h hm; exact h
          have h2 : e + n.log2 < k := by rcases hb with h | h; exact absurd h hn; exact h
          have := log2_mul_le m n hm hn
          exact .inr (by omega)
    | _ => exact hb.elim
  | _ => exact ha.elim

theorem signed_natAbs (s : Bool) (m u : Nat) : (signed s m u).natAbs = m * 2 ^ u := by
  unfold signed
  rw [Nat.shiftLeft_eq]
  cases s
  · exact Int.natAbs_natCast _
  · show (-((m * 2 ^ u : Nat) : Int)).natAbs = _
    rw [Int.natAbs_neg]; exact Int.natAbs_natCast _

theorem shl_lt (m : Nat) (u : Nat) (i base j : Int) (hb : base ≤ i) (hu : (i - base).toNat = u) (h : m = 0 ∨ i + m.log2 < j) : m * 2 ^ u < 2 ^ (j - base).toNat := by
  rcases h with rfl | h
  · rw [Nat.zero_mul]; exact Nat.two_pow_pos _
  · have h1 : m < 2 ^ (m.log2 + 1) := Nat.lt_log2_self
    have h2 : m * 2 ^ u < 2 ^ (m.log2 + 1) * 2 ^ u := Nat.mul_lt_mul_of_pos_right h1 (Nat.two_pow_pos _)
    rw [← Nat.pow_add] at h2
    exact Nat.lt_of_lt_of_le h2 (Nat.pow_le_pow_right (by decide) (by omega))

theorem mag_sum {a b : Datum} {k : Int} (ha : Mag k a) (hb : Mag k b) : ∃ d, a.sum b = some d ∧ Mag (k + 1) d := by
  cases a with
  | number s m i =>
    cases b with
    | number t n e =>
      refine ⟨_, rfl, ?_⟩
      have h1 := shl_lt m _ i (min i e) k (Int.min_le_left _ _) rfl ha
      have h2 := shl_lt n _ e (min i e) k (Int.min_le_right _ _) rfl hb
      have e1 := signed_natAbs s m (i - min i e).toNat
      have e2 := signed_natAbs t n (e - min i e).toNat
      generalize hS : signed s m (i - min i e).toNat = S at *
      generalize hT : signed t n (e - min i e).toNat = T at *
      show (S + T).natAbs = 0 ∨ min i e + ((S + T).natAbs.log2 : Int) < k + 1
      by_cases h0 : (S + T).natAbs = 0
      · exact .inl h0
      · refine .inr ?_
        have h3 : (S + T).natAbs ≤ S.natAbs + T.natAbs := Int.natAbs_add_le _ _
        have h4 : (S + T).natAbs < 2 ^ ((k - min i e).toNat + 1) := by rw [Nat.pow_succ]; omega
        have h5 := (Nat.log2_lt h0).2 h4
        by_cases hk : min i e ≤ k
        · omega
        · have : (k - min i e).toNat = 0 := by omega
          rw [this] at h1 h2
          omega
    | _ => exact hb.elim
  | _ => exact ha.elim

theorem mag_opposite {a : Datum} {k : Int} (ha : Mag k a) : Mag k a.opposite := by
  cases a <;> exact ha

/-- at least 2 ^ k -/
def Big (k : Int) : Datum → Prop
  | .number _ m e => m ≠ 0 ∧ k ≤ e + m.log2
  | _ => False

theorem mag_quotient {a b : Datum} {j k : Int} (p : Nat) (ha : Mag j a) (hb : Big k b) : ∃ d, a.quotient p b = some d ∧ Mag (j - k) d := by
  cases a with
  | number s m i =>
    cases b with
    | number t n e =>
      obtain ⟨hn, hk⟩ := hb
      refine ⟨_, show (if n = 0 then _ else _) = _ from if_neg hn, ?_⟩
      by_cases hm : m = 0
      · subst hm
        refine .inl ?_
        simp
      · have h1 : i + m.log2 < j := by rcases ha with h | h; exact absurd h hm; exact h
        generalize hmore : p + n.log2 - m.log2 = more
        have h2 : m < 2 ^ (m.log2 + 1) := Nat.lt_log2_self
        have h3 : 2 ^ n.log2 ≤ n := Nat.log2_self_le hn
        have h4 : m <<< more / n < 2 ^ (m.log2 + 1 + more - n.log2) := by
          rw [Nat.div_lt_iff_lt_mul (Nat.pos_of_ne_zero hn), Nat.shiftLeft_eq]
          refine Nat.lt_of_lt_of_le (Nat.mul_lt_mul_of_pos_right h2 (Nat.two_pow_pos _)) ?_
          rw [← Nat.pow_add]
          refine Nat.le_trans ?_ (Nat.mul_le_mul_left _ h3)
          rw [← Nat.pow_add]
          exact Nat.pow_le_pow_right (by decide) (by omega)
        have h5 : ∀ c : Bool, 2 * (m <<< more / n) + c.toNat < 2 ^ (m.log2 + 1 + more - n.log2 + 1) := by
          intro c
          rw [Nat.pow_succ]
          cases c <;> simp <;> omega
        have h6 := h5 (m <<< more % n != 0)
        show 2 * (m <<< more / n) + (m <<< more % n != 0).toNat = 0 ∨ i - e - (more : Int) - 1 + ((2 * (m <<< more / n) + (m <<< more % n != 0).toNat).log2 : Int) < j - k
        generalize 2 * (m <<< more / n) + (m <<< more % n != 0).toNat = q at *
        by_cases hq : q = 0
        · exact .inl hq
        · refine .inr ?_
          have := (Nat.log2_lt hq).2 h6
          omega
    | _ => exact hb.elim
  | _ => exact ha.elim

theorem rootFrom_sq (n : Nat) : ∀ (todo root : Nat), root * root ≤ n → Datum.rootFrom n todo root * Datum.rootFrom n todo root ≤ n
  | 0, root, h => h
  | todo + 1, root, h => by
    unfold Datum.rootFrom
    dsimp only
    split
    · rename_i h1; exact rootFrom_sq n todo _ h1
    · exact rootFrom_sq n todo _ h
theorem mag_root {a : Datum} {k : Int} (p : Nat) (ha : Mag k a) (hs : a.neg = false ∨ a.isZero = true) : ∃ d, a.root p = some d ∧ Mag (k / 2 + 2) d := by
  cases a with
  | number s m i =>
    by_cases hm : m = 0
    · subst hm
      exact ⟨_, rfl, .inl rfl⟩
    · have hsf : s = false := by
        rcases hs with h | h
        · exact h
        · cases m with
          | zero => exact absurd rfl hm
          | succ m => cases h
      subst hsf
      have h1 : i + m.log2 < k := by rcases ha with h | h; exact absurd h hm; exact h
      refine ⟨_, show (if m = 0 then _ else _) = _ from (if_neg hm).trans rfl, ?_⟩
      generalize hmore : 2 * p - m.log2 + ((i - ((2 * p - m.log2 : Nat) : Int)) % 2).toNat = more
      have hsq := rootFrom_sq (m <<< more) ((m <<< more).log2 / 2 + 1) 0 (Nat.zero_le _)
      generalize Datum.rootFrom (m <<< more) ((m <<< more).log2 / 2 + 1) 0 = r at *
      have h2 : m <<< more < 2 ^ (m.log2 + 1 + more) := by
        rw [Nat.shiftLeft_eq, Nat.pow_add]
        exact Nat.mul_lt_mul_of_pos_right Nat.lt_log2_self (Nat.two_pow_pos _)
      have h3 : ∀ c : Bool, 2 * r + c.toNat = 0 ∨ ((2 * r + c.toNat).log2 : Int) ≤ (m.log2 + 1 + more) / 2 + 1 := by
        intro c
        by_cases h0 : r = 0
        · subst h0
          cases c
          · exact .inl rfl
          · refine .inr ?_
            show ((1 : Nat).log2 : Int) ≤ _
            have : (1 : Nat).log2 = 0 := by decide +kernel
            rw [this]; omega
        · refine .inr ?_
          have h4 : 2 ^ r.log2 * 2 ^ r.log2 ≤ r * r := Nat.mul_le_mul (Nat.log2_self_le h0) (Nat.log2_self_le h0)
          rw [← Nat.pow_add] at h4
          have h5 : 2 ^ (r.log2 + r.log2) < 2 ^ (m.log2 + 1 + more) := by omega
          have h6 := (Nat.pow_lt_pow_iff_right (by decide : 1 < 2)).1 h5
          have h7 : 2 * r + c.toNat < 2 ^ (r.log2 + 2) := by
            have : r < 2 ^ (r.log2 + 1) := Nat.lt_log2_self
            have e : 2 ^ (r.log2 + 2) = 2 * 2 ^ (r.log2 + 1) := by rw [Nat.pow_succ 2 (r.log2 + 1)]; omega
            cases c <;> simp <;> omega
          have h8 := (Nat.log2_lt (by omega)).2 h7
          omega
      rcases h3 (r * r != m <<< more) with h | h
      · exact .inl h
      · refine .inr ?_
        show (i - (more : Int)) / 2 - 1 + _ < _
        omega
  | _ => exact ha.elim

theorem mag_read32 (x : Nat) : (∃ s t, single.read x = .nan s t) ∨ (∃ s, single.read x = .infinity s) ∨ Mag 128 (single.read x) := by
  have hp : x % single.signWeight < 2147483648 := Nat.mod_lt _ (by decide +kernel)
  unfold Format.read
  dsimp only
  generalize x % single.signWeight = r at *
  split
  · rename_i h
    refine .inr (.inr ?_)
    have h' : r < 8388608 := h
    by_cases h0 : r = 0
    · exact .inl h0
    · have := (Nat.log2_lt h0).2 (show r < 2 ^ 23 by omega)
      exact .inr (by show (2 - 2 ^ 7 - 23 : Int) + r.log2 < 128; omega)
  · split
    · rename_i h1 h2
      refine .inr (.inr (.inr ?_))
      have h2' : r < 2139095040 := h2
      have hl : (single.binade + r % single.binade).log2 < 24 := (Nat.log2_lt (by show 8388608 + r % 8388608 ≠ 0; omega)).2 (by show 8388608 + r % 8388608 < 16777216; omega)
      show (2 - 2 ^ 7 - 23 : Int) + ((r / 8388608 - 1 : Nat) : Int) + _ < 128
      generalize (single.binade + r % single.binade).log2 = l at *
      omega
    · split
      · exact .inr (.inl ⟨_, rfl⟩)
      · exact .inl ⟨_, _, rfl⟩
theorem mag_not_inf {d : Datum} {k : Int} (h : Mag k d) : d.isInfinity = false := by
  cases d <;> first | rfl | exact h.elim
theorem mag_not_nan {d : Datum} {k : Int} (h : Mag k d) : d.isNaN = false := by
  cases d <;> first | rfl | exact h.elim

/-- a 32-bit number as a 64-bit one -/
def widen (x : Nat) : Nat := match single.read x with
  | .nan _ _ => qn .f64
  | d => double.write d
/-- a 64-bit number as the nearest 32-bit one -/
def narrow (x : Nat) : Nat := match double.read x with
  | .nan _ _ => qn .f32
  | d => single.write d
theorem widen_same {x y : Nat} (h : FS .f32 x y) : widen x = widen y := by
  rcases h with rfl | ⟨a, b⟩
  · rfl
  · obtain ⟨s, t, e⟩ := fnan_read a
    obtain ⟨s', t', e'⟩ := fnan_read b
    have e1 : single.read x = .nan s t := e
    have e2 : single.read y = .nan s' t' := e'
    unfold widen; rw [e1, e2]
theorem narrow_same {x y : Nat} (h : FS .f64 x y) : narrow x = narrow y := by
  rcases h with rfl | ⟨a, b⟩
  · rfl
  · obtain ⟨s, t, e⟩ := fnan_read a
    obtain ⟨s', t', e'⟩ := fnan_read b
    have e1 : double.read x = .nan s t := e
    have e2 : double.read y = .nan s' t' := e'
    unfold narrow; rw [e1, e2]
/-- narrowing it leaves nothing open: it is a NaN, an infinity, or less than 2 ^ 127 -/
def Fits (x : Nat) : Prop := (∃ s t, double.read x = .nan s t) ∨ (∃ s, double.read x = .infinity s) ∨ Mag 127 (double.read x)
theorem fits_same {x y : Nat} (h : FS .f64 x y) (g : Fits y) : Fits x := by
  rcases h with rfl | ⟨a, b⟩
  · exact g
  · exact .inl (fnan_read a)

section
variable {P : Program} (w : World)
theorem run_conv_nan (src dst : TypeId) (s k : FloatKind) (b : Nat) (hne : s ≠ k) (hs : (P.underlying src).isSome = true) (hd : P.underlying dst = some (.float k)) (hn : fnan s b = true) :
    (convert src dst (.float s b)).run P w = .ok (.float k ((Question.nanConv k b).cut (w.tape w.drawn (.nanConv k b)))) w.drew := by
  obtain ⟨u, hs'⟩ := Option.isSome_iff_exists.1 hs
  obtain ⟨sg, t, e⟩ := fnan_read hn
  have e' : s.decode b = .nan sg t := e
  cases u <;> simp [convert, run_underlying hs', run_underlying hd, Conv.floatToFloat, e', hne, Question.forced]
theorem run_widen (src dst : TypeId) (b : Nat) (hs : (P.underlying src).isSome = true) (hd : P.underlying dst = some (.float .f64)) :
    ∃ r n, (convert src dst (.float .f32 b)).run P w = .ok (.float .f64 r) (w.drewN n) ∧ FR .f64 r (widen b) := by
  have hr : FloatKind.f32.decode b = single.read b := rfl
  rcases mag_read32 b with ⟨s, t, e⟩ | ⟨s, e⟩ | hm
  · exact ⟨_, 1, run_conv_nan w src dst .f32 .f64 b (by decide) hs hd (isNaN_of_read ⟨s, t, e⟩), .inr ⟨cut_nanConv _ _ _, by unfold widen; rw [e]; exact fnan_qn .f64⟩, cut_nanConv_lt _ _ _⟩
  · refine ⟨double.write (.infinity s), 0, run_convert_float_float w src dst .f32 .f64 b _ hs hd ?_, by unfold widen; rw [e]; exact .inl rfl, Format.write_lt _ _⟩
    unfold floatToFloatBits; rw [if_neg (by decide), hr, e]; rfl
  · cases hd2 : single.read b with
    | infinity s => rw [hd2] at hm; exact hm.elim
    | nan s t => rw [hd2] at hm; exact hm.elim
    | number s m e =>
      rw [hd2] at hm
      have hi : (FloatKind.f64.decode (FloatKind.f64.encode (.number s m e))).isInfinity = false := mag_not_inf (mag_write64 hm (by decide) (by decide))
      refine ⟨double.write (.number s m e), 0, run_convert_float_float w src dst .f32 .f64 b _ hs hd ?_, by unfold widen; rw [hd2]; exact .inl rfl, Format.write_lt _ _⟩
      unfold floatToFloatBits; rw [if_neg (by decide), hr, hd2]; dsimp only; rw [hi]; rfl
theorem run_narrow (src dst : TypeId) (b : Nat) (hs : (P.underlying src).isSome = true) (hd : P.underlying dst = some (.float .f32)) (hf : Fits b) :
    ∃ r n, (convert src dst (.float .f64 b)).run P w = .ok (.float .f32 r) (w.drewN n) ∧ FR .f32 r (narrow b) := by
  have hr : FloatKind.f64.decode b = double.read b := rfl
  rcases hf with ⟨s, t, e⟩ | ⟨s, e⟩ | hm
  · exact ⟨_, 1, run_conv_nan w src dst .f64 .f32 b (by decide) hs hd (isNaN_of_read ⟨s, t, e⟩), .inr ⟨cut_nanConv _ _ _, by unfold narrow; rw [e]; exact fnan_qn .f32⟩, cut_nanConv_lt _ _ _⟩
  · refine ⟨single.write (.infinity s), 0, run_convert_float_float w src dst .f64 .f32 b _ hs hd ?_, by unfold narrow; rw [e]; exact .inl rfl, Format.write_lt _ _⟩
    unfold floatToFloatBits; rw [if_neg (by decide), hr, e]; rfl
  · cases hd2 : double.read b with
    | infinity s => rw [hd2] at hm; exact hm.elim
    | nan s t => rw [hd2] at hm; exact hm.elim
    | number s m e =>
      rw [hd2] at hm
      have hi : (FloatKind.f32.decode (FloatKind.f32.encode (.number s m e))).isInfinity = false := mag_not_inf (mag_write32 hm (by decide) (by decide))
      refine ⟨single.write (.number s m e), 0, run_convert_float_float w src dst .f64 .f32 b _ hs hd ?_, by unfold narrow; rw [hd2]; exact .inl rfl, Format.write_lt _ _⟩
      unfold floatToFloatBits; rw [if_neg (by decide), hr, hd2]; dsimp only; rw [hi]; rfl

theorem wpList_widen {ops : Array Oper} {rest : List Oper} {o : Oper} {a : Act} {Q : Exit → Act → World → Prop} (hgd : Region.wanted o (yielded ops a.tmps) = true) (src dst : TypeId) (x : Operand)
    (ho : o.op = .convert src dst x) (p : Nat) (hx : a.eval x = .float .f32 p) (hs : (P.underlying src).isSome = true) (hd : P.underlying dst = some (.float .f64))
    (h : ∀ r n, FR .f64 r (widen p) → wpList P ops Q rest (a.put o.dst (.float .f64 r)) (w.drewN n)) : wpList P ops Q (o :: rest) a w :=
  wpList_want hgd fun K hK => by
    obtain ⟨r, n, hr, hsm⟩ := run_widen (P := P) w src dst p hs hd
    unfold Oper.wp execOp
    simp only [ho, hx]
    simp only [Sem.run_bind, Sem.run_pure, Result.andThen_ok, hr]
    exact hK _ _ (h r n hsm)
theorem wpList_narrow {ops : Array Oper} {rest : List Oper} {o : Oper} {a : Act} {Q : Exit → Act → World → Prop} (hgd : Region.wanted o (yielded ops a.tmps) = true) (src dst : TypeId) (x : Operand)
    (ho : o.op = .convert src dst x) (p : Nat) (hx : a.eval x = .float .f64 p) (hs : (P.underlying src).isSome = true) (hd : P.underlying dst = some (.float .f32)) (hf : Fits p)
    (h : ∀ r n, FR .f32 r (narrow p) → wpList P ops Q rest (a.put o.dst (.float .f32 r)) (w.drewN n)) : wpList P ops Q (o :: rest) a w :=
  wpList_want hgd fun K hK => by
    obtain ⟨r, n, hr, hsm⟩ := run_narrow (P := P) w src dst p hs hd hf
    unfold Oper.wp execOp
    simp only [ho, hx]
    simp only [Sem.run_bind, Sem.run_pure, Result.andThen_ok, hr]
    exact hK _ _ (h r n hsm)
end
end Go
