/- RunFund, by both. -/
import Derived.Test.YtpbbedelapnnnaaW7
import Derived.Test.YtpbbedelapnnnaaFpl
namespace Go.Proofs.Ytpbbedelapnnnaa
open Go.RowKit Go.Dues
def rnS (v : Nat) (x y z : Nat → Nat) : Nat → Nat
  | 0 => v
  | k + 1 => fop .mul .f32 (fop .sub .f32 (fop .add .f32 (rnS v x y z k) (x k)) (y k)) (fop .add .f32 1065353216 (z k))
def rnV (v : Nat) (x y z : Nat → Nat) (j : Nat) : Nat := rnS v x y z (j + 1)
theorem rn_step {v : Nat} {x y z : Nat → Nat} {k s u a b c r : Nat} (h : FS .f32 s (rnS v x y z k)) (hu : FS .f32 u (x k)) (h1 : FR .f32 a (fop .add .f32 s u)) (h2 : FR .f32 b (fop .sub .f32 a (y k))) (h3 : FR .f32 c (fop .add .f32 1065353216 (z k))) (h4 : FR .f32 r (fop .mul .f32 b c)) : FS .f32 r (rnV v x y z k) := by
  refine h4.same.trans (.inl ?_)
  show _ = fop .mul .f32 (fop .sub .f32 (fop .add .f32 (rnS v x y z k) (x k)) (y k)) (fop .add .f32 1065353216 (z k))
  exact fop_same (h2.same.trans (.inl (fop_same (h1.same.trans (.inl (fop_same h hu))) (FS.refl _ _)))) h3.same
theorem rn_congr {v : Nat} {x x' y z : Nat → Nat} {n : Nat} (h : ∀ j, j < n → FS .f32 (x j) (x' j)) : ∀ k, k ≤ n → rnS v x y z k = rnS v x' y z k
  | 0, _ => rfl
  | k + 1, hk => by
    show fop .mul .f32 (fop .sub .f32 (fop .add .f32 (rnS v x y z k) (x k)) (y k)) _ = fop .mul .f32 (fop .sub .f32 (fop .add .f32 (rnS v x' y z k) (x' k)) (y k)) _
    rw [rn_congr h k (by omega), fop_same (FS.refl .f32 (rnS v x' y z k)) (h k (by omega))]
def rfP (v : Nat) (x : Nat → Nat) (n : Nat) (y : Nat → Nat) (m : Nat) (z : Nat → Nat) (l : Nat) : Prop := fdP v x n y m z l ∧ ∀ j, j < n → ffin .f32 (rnV v x y z j) = true
theorem fin_all {u V : Nat → Nat} {n : Nat} (h : ∀ j, j < n → FS .f32 (u j) (V j)) : (∀ j, j < n → ffin .f32 (u j) = true) ↔ ∀ j, j < n → ffin .f32 (V j) = true :=
  ⟨fun g j hj => by rw [← ffin_same (h j hj)]; exact g j hj, fun g j hj => by rw [ffin_same (h j hj)]; exact g j hj⟩
theorem World.ownsRow.drewQ {w : World} {B e size n : Nat} {v : Value} {xs : List Value} {o : Obj} (h : w.ownsRow B e size v n xs) (q : Nat) : ((w.drewN q).alloc o).ownsRow B e size v n xs :=
  World.ownsRow.alloc (w := w.drewN q) (show (w.drewN q).ownsRow B e size v n xs from h) o
end Go.Proofs.Ytpbbedelapnnnaa
