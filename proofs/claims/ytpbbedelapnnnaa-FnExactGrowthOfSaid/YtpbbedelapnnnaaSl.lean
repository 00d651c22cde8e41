/- Slices that read as lists; widening as an equation of the run. -/
import Derived.Test.YtpbbedelapnnnaaFlo
import Derived.Test.YtpbbedelapnnnaaSlb
import Derived.Below
import Derived.ChangeSlices
namespace Go
open Go.RowKit

section
open Go.ChangeShapes Go.WideShapes
variable {H : Type} {enc : TypeId × Value → H} {P : Program} {w : World}
theorem trod_float {base : Nat} {spare : Nat → Bool} {held : Bool} {t : TypeId} {k : FloatKind} {fuel : Nat} {cs : List Value} {x : DataW H × List MemPlace} (ht : P.underlying t = some (.float k)) (h : DataW.trod enc P w base spare held fuel t cs = some x) :
    ∃ b, cs = [.float k b] ∧ (Lit.float k b).wf = true := by
  cases fuel with
  | zero => simp [DataW.trod] at h
  | succ n =>
    unfold DataW.trod at h
    rw [ht] at h
    split at h <;> simp_all

/-- A SLICE OF FLOATS, OPENED. -/
theorem open_fl {t e : TypeId} {k : FloatKind} {v : Value} {d : DataW H} {ps : List MemPlace} (ht : P.underlying t = some (.slice e)) (he : P.underlying e = some (.float k)) (hc : P.cellsOf e = 1)
    (hd : DataW.Trod enc P w 0 (fun _ => true) true t v d ps) (hv : ∃ A n c, v = .slice A n c) :
    ∃ A n c, ∃ x : Nat → Nat, v = .slice A n c ∧ n ≤ maxLen ∧ SL w A n (fun j => .float k (x j)) ∧ ∀ j, j < n → (Lit.float k (x j)).wf = true := by
  obtain ⟨A, n, c, f, rfl, hm, hs, hf⟩ := open_sl ht hc hd hv
  have each : ∀ j, j < n → ∃ b, f j = .float k b ∧ (Lit.float k b).wf = true := by
    intro j hj
    obtain ⟨m, y, h⟩ := hf j hj
    obtain ⟨b, h1, h2⟩ := trod_float he h
    exact ⟨b, by injection h1, h2⟩
  refine ⟨A, n, c, fun j => match f j with | .float _ b => b | _ => 0, rfl, hm, ?_, ?_⟩
  · rcases hs with h | ⟨b, off, h1, h2, h3⟩
    · exact .inl h
    · refine .inr ⟨b, off, h1, h2, fun j hj => ?_⟩
      obtain ⟨b', e1, _⟩ := each j hj
      rw [h3 j hj]
      simp only [e1]
  · intro j hj
    obtain ⟨b', e1, e2⟩ := each j hj
    simp only [e1]; exact e2
end

/-! ### widening, as an equation -/
/-- the bits of a widened number: a NaN's are the tape's -/
def wv (b : Nat) (w : World) : Nat := if fnan .f32 b = true then (Question.nanConv .f64 b).cut (w.tape w.drawn (.nanConv .f64 b)) else widen b
def wd (b : Nat) : Nat := if fnan .f32 b = true then 1 else 0
theorem run_widen_eq {P : Program} (w : World) (src dst : TypeId) (b : Nat) (hs : (P.underlying src).isSome = true) (hd : P.underlying dst = some (.float .f64)) :
    (convert src dst (.float .f32 b)).run P w = .ok (.float .f64 (wv b w)) (w.drewN (wd b)) := by
  unfold wv wd
  by_cases hn : fnan .f32 b = true
  · rw [if_pos hn, if_pos hn]
    exact run_conv_nan w src dst .f32 .f64 b (by decide) hs hd hn
  · rw [if_neg hn, if_neg hn]
    have hr : FloatKind.f32.decode b = Ieee.single.read b := rfl
    refine run_convert_float_float w src dst .f32 .f64 b _ hs hd ?_
    rcases mag_read32 b with ⟨s, t, e⟩ | ⟨s, e⟩ | hm
    · exact absurd (isNaN_of_read (k := .f32) ⟨s, t, e⟩) hn
    · unfold floatToFloatBits; rw [if_neg (by decide), hr, e]; unfold widen; rw [e]; rfl
    · cases hd2 : Ieee.single.read b with
      | infinity s => rw [hd2] at hm; exact hm.elim
      | nan s t => rw [hd2] at hm; exact hm.elim
      | number s m e =>
        rw [hd2] at hm
        have hi : (FloatKind.f64.decode (FloatKind.f64.encode (.number s m e))).isInfinity = false := mag_not_inf (mag_write64 hm (by decide) (by decide))
        unfold floatToFloatBits; rw [if_neg (by decide), hr, hd2]; dsimp only; rw [hi]; unfold widen; rw [hd2]; rfl
/-! ### arithmetic, as an equation -/
def fv (op : BinOp) (k : FloatKind) (x y : Nat) (w : World) : Nat := (floatBits op k x y).getD ((Question.nanBits k x y).cut (w.tape w.drawn (.nanBits k x y)))
def fd (op : BinOp) (k : FloatKind) (x y : Nat) : Nat := if (floatBits op k x y).isSome = true then 0 else 1
theorem run_far_eq {P : Program} (op : BinOp) (ho : op = .add ∨ op = .sub ∨ op = .mul ∨ op = .quo) (w : World) (t : TypeId) (k : FloatKind) (x y : Nat) :
    (binOp op t (.float k x) (.float k y)).run P w = .ok (.float k (fv op k x y w)) (w.drewN (fd op k x y)) := by
  unfold fv fd
  cases h : floatBits op k x y with
  | some r =>
    exact run_float_arith w op t k x y r h
  | none =>
    unfold floatBits at h
    rcases ho with rfl | rfl | rfl | rfl <;> simp only at h <;> simp [binOp, Op.floatArith, h, Question.forced] <;> rfl
theorem fv_same (op : BinOp) (k : FloatKind) (x y : Nat) (w : World) : FR k (fv op k x y w) (fop op k x y) := by
  unfold fv fop
  cases h : floatBits op k x y with
  | some r =>
    refine ⟨.inl rfl, ?_⟩
    have := floatBits_wf h
    cases k <;> simpa [Lit.wf, flim] using this
  | none => exact ⟨.inr ⟨cut_nan _ _ _ _, fnan_qn k⟩, cut_nan_lt _ _ _ _⟩
theorem wv_same (b : Nat) (w : World) : FR .f64 (wv b w) (widen b) := by
  unfold wv
  by_cases hn : fnan .f32 b = true
  · rw [if_pos hn]
    obtain ⟨s, t, e⟩ := fnan_read hn
    refine ⟨.inr ⟨cut_nanConv _ _ _, ?_⟩, cut_nanConv_lt _ _ _⟩
    have e' : Ieee.single.read b = .nan s t := e
    unfold widen; rw [e']; exact fnan_qn .f64
  · rw [if_neg hn]
    refine ⟨.inl rfl, ?_⟩
    unfold widen
    split
    · decide
    · exact Ieee.Format.write_lt _ _
theorem wv_both {a b : Nat} {v w : World} (h : FS .f32 a b) : FS .f64 (wv a v) (wv b w) := by
  have h1 := (wv_same a v).same
  rw [widen_same h] at h1
  exact h1.trans (wv_same b w).same.symm
end Go
