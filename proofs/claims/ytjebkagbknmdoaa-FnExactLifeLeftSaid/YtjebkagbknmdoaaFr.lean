/- ReserveRow, by the reference. -/
import Derived.Test.YtjebkagbknmdoaaFa
namespace Go.Proofs.Ytjebkagbknmdoaa
open Go.RowKit Go.Dues
attribute [local go_sem] run_store_float
def rrF (r : Nat) : Nat := fop .quo .f32 1065353216 (fop .add .f32 1065353216 r)
def rrN (q r s : Nat) : Nat := fop .add .f32 1065353216 (fop .mul .f32 (fop .mul .f32 (fop .sub .f32 1065353216 q) (rrF r)) s)
/-- what a pay is worth when k years have been looked at, from the last one on -/
def rrS (q : Nat → Nat) (r n : Nat) : Nat → Nat
  | 0 => 0
  | k + 1 => rrN (q (n - 1 - k)) r (rrS q r n k)
def rrV (q : Nat → Nat) (r n : Nat) (j : Nat) : Nat := rrS q r n (n - j)
def rrP (q : Nat → Nat) (n r : Nat) : Prop := ltP q n ∧ shB r = true
theorem rr_step {q r s a f c d e u : Nat} (hs : FS .f32 s u) (ha : FR .f32 a (fop .sub .f32 1065353216 q)) (hf : FS .f32 f (rrF r)) (hc : FR .f32 c (fop .mul .f32 a f)) (hd : FR .f32 d (fop .mul .f32 c s)) (he : FR .f32 e (fop .add .f32 1065353216 d)) : FS .f32 e (rrN q r u) := by
  refine he.same.trans (.inl ?_)
  unfold rrN
  exact fop_same (FS.refl _ _) (hd.same.trans (.inl (fop_same (hc.same.trans (.inl (fop_same ha.same hf))) hs)))
theorem factor_fs {p d e : Nat} (h0 : FR .f32 d (fop .add .f32 1065353216 p)) (h1 : FR .f32 e (fop .quo .f32 1065353216 d)) : FS .f32 e (rrF p) :=
  h1.same.trans (.inl (fop_same (FS.refl _ _) h0.same))
/-- a row of n numbers, those from place m on the same as told -/
def FEnd (xs : List Value) (m n : Nat) (V : Nat → Nat) : Prop := ∀ j, m ≤ j → j < n → ∃ u, xs[j]? = some (.float .f32 u) ∧ FS .f32 u (V j)
theorem fend_step {xs : List Value} {m n u : Nat} {V : Nat → Nat} (hl : xs.length = n) (hm : m < n) (h : FEnd xs (m + 1) n V) (hu : FS .f32 u (V m)) : FEnd (xs.set m (.float .f32 u)) m n V := by
  intro j h1 h2
  by_cases hjm : j = m
  · subst hjm
    exact ⟨u, by rw [List.getElem?_set_self (by omega)], hu⟩
  · rw [List.getElem?_set_ne (by omega)]
    exact h j (by omega) h2
end Go.Proofs.Ytjebkagbknmdoaa
