/- LifeLeft: what is told, and that it is finite. -/
import Derived.Test.YtjebkagbknmdoaaAy8
import Derived.Test.YtjebkagbknmdoaaV7
namespace Go.Proofs.Ytjebkagbknmdoaa
open Go.RowKit Go.Dues
def llS (y : Nat → Nat) (n : Nat) : Nat → Nat
  | 0 => fop .quo .f32 (y (n - 1)) (fop .sub .f32 1065353216 (y (n - 1)))
  | k + 1 => fop .mul .f32 (y (n - 2 - k)) (fop .add .f32 1065353216 (llS y n k))
def llV (y : Nat → Nat) (n j : Nat) : Nat := llS y n (n - 1 - j)
def ltO (x : Nat) : Bool := FloatKind.f32.format.order x 1065353216 == some .lt
def llP (x : Nat → Nat) (n : Nat) (y : Nat → Nat) (m : Nat) (z : Nat → Nat) (l : Nat) : Prop := ppP x n y m z l ∧ ltO (y (n - 1)) = true
theorem ll_mag {x y z : Nat → Nat} {n m l : Nat} (h : llP x n y m z l) : ∀ k : Nat, k < n → Go.Mag (27 + 4 * (k : Int)) (Ieee.single.read (llS y n k))
  | 0, _ => by
    obtain ⟨⟨⟨h1, h2⟩, _, _, _, h3, _⟩, h4⟩ := h
    have hs := sh_of (h3 (n - 1) (by omega))
    have hl : Ieee.single.order (y (n - 1)) 1065353216 = some .lt := (show FloatKind.f32.format.order (y (n - 1)) 1065353216 = some .lt by unfold ltO at h4; simpa using h4)
    exact mag_mono (mag_quo32' (j := 1) (k := -24) (mag_share hs) (left_big hs hl) (by decide) (by decide)) (by omega)
  | k + 1, hk => by
    have ih := ll_mag h k (by omega)
    obtain ⟨⟨⟨h1, h2⟩, _, _, _, h3, _⟩, h4⟩ := h
    have hs := sh_of (h3 (n - 2 - k) (by omega))
    have a := mag_add32 (k := 27 + 4 * (k : Int)) (mag_mono mag_one (by omega)) ih (by omega) (by omega)
    have b := mag_mul32 (mag_share hs) a (by omega) (by omega)
    exact mag_mono b (by omega)
theorem ll_fin {x y z : Nat → Nat} {n m l : Nat} (h : llP x n y m z l) {k : Nat} (hk : k < n) : ffin .f32 (llS y n k) = true := mag_fin (ll_mag h k hk)
theorem ll_first {y : Nat → Nat} {n a b : Nat} (ha : FR .f32 a (fop .sub .f32 1065353216 (y (n - 1)))) (hb : FR .f32 b (fop .quo .f32 (y (n - 1)) a)) : FS .f32 b (llS y n 0) :=
  hb.same.trans (.inl (fop_same (FS.refl _ _) ha.same))
theorem ll_step {y : Nat → Nat} {n k r a b : Nat} (hr : FS .f32 r (llS y n k)) (ha : FR .f32 a (fop .add .f32 1065353216 r)) (hb : FR .f32 b (fop .mul .f32 (y (n - 2 - k)) a)) : FS .f32 b (llS y n (k + 1)) :=
  hb.same.trans (.inl (fop_same (FS.refl _ _) (ha.same.trans (.inl (fop_same (FS.refl _ _) hr)))))
theorem lt_eq {x : Nat} (h : shB x = true) : (FloatKind.f32.format.order x 1065353216 == some .eq) = !ltO x := by
  unfold shB geB leB od at h
  simp only [Bool.and_eq_true, Bool.or_eq_true, beq_iff_eq] at h
  unfold ltO
  rcases h.2 with h | h <;> rw [h] <;> rfl
end Go.Proofs.Ytjebkagbknmdoaa
