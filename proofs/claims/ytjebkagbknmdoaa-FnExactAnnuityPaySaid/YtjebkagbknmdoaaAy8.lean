/- What lives are worth: between 1 and 120; a number of at most 2 to the 60th as an integer. -/
import Derived.Test.YtjebkagbknmdoaaFq
import Derived.Test.YtjebkagbknmdoaaMr8
namespace Go.Proofs.Ytjebkagbknmdoaa
open Go.RowKit Go.Dues
theorem sh_of {x : Nat} (h : shB x = true) : Sh x := by
  unfold shB geB leB od at h
  simp only [Bool.and_eq_true, Bool.or_eq_true, beq_iff_eq] at h
  exact share_word h.1 h.2
theorem alV_le {x : Nat → Nat} {n : Nat} (h : ∀ j, j < n → shB (x j) = true) : ∀ k, k ≤ n → alV x k ≤ 1065353216
  | 0, _ => Nat.le_refl _
  | k + 1, hk => mul_le_one (alV_le h k (by omega)) (left_one (sh_of (h k (by omega))))
theorem pwV_le {r : Nat} (h : shB r = true) : ∀ k, pwV r k ≤ 1065353216
  | 0 => Nat.le_refl _
  | k + 1 => mul_le_one (pwV_le h k) (factor_le (sh_of h))
theorem woV_le {q : Nat → Nat} {r n : Nat} (hq : ∀ j, j < n → q j ≤ 1065353216) (hr : shB r = true) (hn : n ≤ 256) : ∀ k, k ≤ n → woV q r 0 k ≤ fW k ∧ woV q r 0 k < 2139095040
  | 0, _ => ⟨Nat.zero_le _, (by decide : (0 : Nat) < 2139095040)⟩
  | k + 1, hk => by
    rw [woV_yes (by omega)]
    obtain ⟨h1, h2⟩ := woV_le hq hr hn k (by omega)
    have h3 := mul_le_one (hq k (by omega)) (pwV_le hr k)
    obtain ⟨f1, f2⟩ := fW_uv k (by omega)
    obtain ⟨f3, f4⟩ := fW_uv (k + 1) (by omega)
    have h4 : fop .add .f32 (woV q r 0 k) (fop .mul .f32 (q k) (pwV r k)) ≤ fW (k + 1) := by
      refine add_le h2 (by omega) ?_
      rw [f3, Nat.succ_mul, ← f1, ← uv_one]
      exact Nat.add_le_add (uv_le h1) (uv_le h3)
    exact ⟨h4, by omega⟩
theorem woV_ge {q : Nat → Nat} {r n : Nat} (hq : ∀ j, j < n → q j ≤ 1065353216) (hr : shB r = true) (hn : n ≤ 256) (h0 : q 0 = 1065353216) : ∀ k, k + 1 ≤ n → 1065353216 ≤ woV q r 0 (k + 1)
  | 0, _ => by
    rw [woV_yes (by omega), h0]
    have : fop .add .f32 0 (fop .mul .f32 1065353216 1065353216) = 1065353216 := by decide +kernel
    exact Nat.le_of_eq this.symm
  | k + 1, hk => by
    have h1 := woV_ge hq hr hn h0 k (by omega)
    have h2 := (woV_le hq hr hn (k + 1) (by omega)).2
    have h3 := mul_le_one (hq (k + 1) (by omega)) (pwV_le hr (k + 1))
    rw [woV_yes (k := k + 1) (by omega)]
    exact Nat.le_trans h1 (add_ge h2 (by omega) (by omega) (Nat.le_add_right _ _))
theorem lvV_bd {x : Nat → Nat} {n r : Nat} (h : lvP x n r 0) : 1065353216 ≤ lvV x n r 0 ∧ lvV x n r 0 < 2139095040 := by
  obtain ⟨⟨⟨h1, h2⟩, h3, _⟩, h4, _⟩ := h
  have ha := alV_le h3
  unfold lvV
  refine ⟨?_, (woV_le (n := n) (fun j hj => ha j (by omega)) h4 (by omega) n (Nat.le_refl _)).2⟩
  obtain ⟨k, rfl⟩ : ∃ k, n = k + 1 := ⟨n - 1, by omega⟩
  exact woV_ge (n := k + 1) (fun j hj => ha j (by omega)) h4 (by omega) rfl k (by omega)
/-- the pay -/
def apQ (x : Nat → Nat) (n r : Nat) (f : Int) : Nat := fop .quo .f32 (floatOfInt .f32 f) (lvV x n r 0)
def apP (x : Nat → Nat) (n r : Nat) (f : Int) : Prop := lvP x n r 0 ∧ 0 ≤ f ∧ f ≤ 1000000
def apV (x : Nat → Nat) (n r : Nat) (f : Int) : Int := (floatToIntVal .f32 (apQ x n r f) .i64).getD 0
theorem apQ_mag {x : Nat → Nat} {n r : Nat} {f : Int} (h : apP x n r f) : Mag 32 (Ieee.single.read (apQ x n r f)) := by
  obtain ⟨h1, h2, h3⟩ := h
  obtain ⟨b1, b2⟩ := lvV_bd h1
  refine mag_quo32 (k := 31) ?_ (big_one b1 b2) (by decide) (by decide)
  refine mag_write32 (d := .number (f < 0) f.natAbs 0) (k := ((30 : Nat) : Int)) ?_ (by decide) (by decide)
  by_cases h : f.natAbs = 0
  · exact .inl h
  · exact .inr (by have := (Nat.log2_lt (k := 30) h).2 (by omega); omega)
theorem apQ_int {x : Nat → Nat} {n r : Nat} {f : Int} (h : apP x n r f) : floatToIntVal .f32 (apQ x n r f) .i64 = some (apV x n r f) := by
  obtain ⟨v, hv⟩ := int_small32 (k := 32) (.inl (apQ_mag h)) (by decide)
  unfold apV
  rw [hv]; rfl
theorem apQ_nan {x : Nat → Nat} {n r : Nat} {f : Int} (h : apP x n r f) : fnan .f32 (apQ x n r f) = false := mag_not_nan (apQ_mag h)
end Go.Proofs.Ytjebkagbknmdoaa
