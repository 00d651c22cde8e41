/- YearsToLive, by both. -/
import Derived.Test.YtpbbedelapnnnaaFa
namespace Go.Proofs.Ytpbbedelapnnnaa
open Go.RowKit Go.Dues
noncomputable def ifF (p : Prop) (v : Nat) : Nat := @ite _ p (Classical.propDecidable p) v 0
theorem ifF_yes {p : Prop} {v : Nat} (h : p) : ifF p v = v := by unfold ifF; exact if_pos h
theorem ifF_no {p : Prop} {v : Nat} (h : ¬ p) : ifF p v = 0 := by unfold ifF; exact if_neg h
/-- a number, the same as told, if p holds; 0 if not -/
def GaveV (w w' : World) (e : Ending) (p : Prop) (V : Nat) : Prop := ∃ r, e = .returned (.tuple #[.float .f32 r, .bool (tru p)]) ∧ FS .f32 r (ifF p V) ∧ Below w.heap.size w w'
theorem gavev_no {w w' : World} {p : Prop} {V : Nat} (h : ¬ p) (hb : Below w.heap.size w w') : GaveV w w' (.returned (.tuple #[.float .f32 0, .bool false])) p V :=
  ⟨0, by rw [tru_no h], by rw [ifF_no h]; exact .inl rfl, hb⟩
theorem gavev_yes {w w' : World} {p : Prop} {V r : Nat} (h : p) (hr : FS .f32 r V) (hb : Below w.heap.size w w') : GaveV w w' (.returned (.tuple #[.float .f32 r, .bool true])) p V :=
  ⟨r, by rw [tru_yes h], by rw [ifF_yes h]; exact hr, hb⟩
theorem fsum_congr {x y : Nat → Nat} {n : Nat} (h : ∀ j, j < n → FS .f32 (x j) (y j)) : ∀ k, k ≤ n → fsum x k = fsum y k
  | 0, _ => rfl
  | k + 1, hk => by
    show fop .add .f32 (fsum x k) (x k) = fop .add .f32 (fsum y k) (y k)
    rw [fsum_congr h k (by omega)]
    exact fop_same (FS.refl _ _) (h k (by omega))
def ylV (q : Nat → Nat) (n : Nat) : Nat := fop .sub .f32 (fsum (alV q) n) 1056964608
theorem yl_step {q : Nat → Nat} {n r r' : Nat} (h : FS .f32 r (fsum (alV q) n)) (h2 : FR .f32 r' (fop .sub .f32 r 1056964608)) : FS .f32 r' (ylV q n) := h2.same.trans (.inl (fop_same h (FS.refl _ _)))
end Go.Proofs.Ytpbbedelapnnnaa
