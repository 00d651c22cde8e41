/- Funds: ins, outs and returns, by both; WorthNow. -/
import Derived.Test.YtpbbedelapnnnaaS7
namespace Go.Proofs.Ytpbbedelapnnnaa
open Go.RowKit Go.Dues
/-- what ins, outs and returns are -/
def fdP (v : Nat) (x : Nat → Nat) (n : Nat) (y : Nat → Nat) (m : Nat) (z : Nat → Nat) (l : Nat) : Prop := ffin .f32 v = true ∧ (1 ≤ n ∧ n ≤ 64) ∧ m = n ∧ l = n ∧ (∀ j, j < n → ffin .f32 (x j) = true) ∧ (∀ j, j < n → ffin .f32 (y j) = true) ∧ ∀ j, j < n → rtB (z j) = true
theorem rt_fin {x : Nat} (h : rtB x = true) : ffin .f32 x = true ∧ (FloatKind.f32.format.order x 3212836864 == some .gt) = true := by
  unfold rtB at h
  rw [Bool.and_eq_true] at h
  exact h
def wnD (z : Nat → Nat) : Nat → Nat
  | 0 => 1065353216
  | k + 1 => fop .mul .f32 (wnD z k) (fop .add .f32 1065353216 (z k))
def wnV (x z : Nat → Nat) (n : Nat) : Nat := fsum (fun j => fop .quo .f32 (x j) (wnD z j)) n
theorem wnD_step {z : Nat → Nat} {k r a r' : Nat} (h : FS .f32 r (wnD z k)) (h1 : FR .f32 a (fop .add .f32 1065353216 (z k))) (h2 : FR .f32 r' (fop .mul .f32 r a)) : FS .f32 r' (wnD z (k + 1)) := by
  refine h2.same.trans (.inl ?_)
  show _ = fop .mul .f32 (wnD z k) (fop .add .f32 1065353216 (z k))
  exact fop_same h h1.same
theorem wnV_step {x z : Nat → Nat} {k s r a s' : Nat} (hs : FS .f32 s (wnV x z k)) (h : FS .f32 r (wnD z k)) (h1 : FR .f32 a (fop .quo .f32 (x k) r)) (h2 : FR .f32 s' (fop .add .f32 s a)) : FS .f32 s' (wnV x z (k + 1)) := by
  refine h2.same.trans (.inl ?_)
  show _ = fop .add .f32 (wnV x z k) (fop .quo .f32 (x k) (wnD z k))
  exact fop_same hs (h1.same.trans (.inl (fop_same (FS.refl _ _) h)))
def wnP (x : Nat → Nat) (n : Nat) (z : Nat → Nat) (l : Nat) : Prop := fdP 0 x n x n z l ∧ ffin .f32 (wnV x z n) = true
theorem fin0 : ffin .f32 0 = true := by decide +kernel
end Go.Proofs.Ytpbbedelapnnnaa
