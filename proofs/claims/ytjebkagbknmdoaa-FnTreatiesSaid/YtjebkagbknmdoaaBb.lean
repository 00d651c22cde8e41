/- Bytes among the arguments of a law, and the numbers that a law takes from them. -/
import Derived.Test.YtjebkagbknmdoaaProg
import Derived.Test.YtjebkagbknmdoaaScp
import Derived.Test.YtjebkagbknmdoaaOw
import Derived.Deep.QuietTactic
import Derived.BigQuiet
namespace Go
open Go.RowKit
section
open Go.ChangeShapes Go.WideShapes Go.Deep
variable {H : Type} {enc : TypeId × Value → H} {P : Program} {w : World}
/-- A SLICE OF BYTES, OPENED. -/
theorem open_bytes {t e : TypeId} {v : Value} {d : DataW H} {ps : List MemPlace} (ht : P.underlying t = some (.slice e)) (he : P.underlying e = some (.int .u8)) (hc : P.cellsOf e = 1)
    (hd : DataW.Trod enc P w 0 (fun _ => true) true t v d ps) (hv : ∃ A n c, v = .slice A n c) :
    ∃ A n c, ∃ x : Nat → Int, v = .slice A n c ∧ n ≤ maxLen ∧ SL w A n (fun j => .int .u8 (x j)) ∧ ∀ j, j < n → 0 ≤ x j ∧ x j ≤ 255 := by
  obtain ⟨A, n, c, f, rfl, hm, hs, hf⟩ := open_sl ht hc hd hv
  have each : ∀ j, j < n → ∃ b : Int, f j = .int .u8 b ∧ 0 ≤ b ∧ b ≤ 255 := by
    intro j hj
    obtain ⟨m, y, h⟩ := hf j hj
    obtain ⟨b, h1, _, h2⟩ := DataW.trod_int he h
    have hmin : IntKind.u8.min = 0 := rfl
    have hmax : IntKind.u8.max = 255 := rfl
    simp only [Lit.wf, Bool.and_eq_true, decide_eq_true_eq] at h2
    exact ⟨b, by injection h1, by omega, by omega⟩
  refine ⟨A, n, c, fun j => match f j with | .int _ b => b | _ => 0, rfl, hm, ?_, ?_⟩
  · rcases hs with h | ⟨b, off, h1, h2, h3⟩
    · exact .inl h
    · refine .inr ⟨b, off, h1, h2, fun j hj => ?_⟩
      obtain ⟨b', e1, _⟩ := each j hj
      rw [h3 j hj]
      simp only [e1]
  · intro j hj
    obtain ⟨b', e1, e2⟩ := each j hj
    simp only [e1]; exact e2
end
/-- what b10At tells -/
def b10V (x : Nat → Int) (n : Nat) (i N : Int) : Int := if N ≤ 1 then 0 else if i < n then x i.toNat % N else (i * 37 + 11) % N
/-- what r8At tells -/
def r8V (x : Nat → Int) (n : Nat) (i N : Int) : Int := if N ≤ 1 ∨ (n : Int) ≤ i then 0 else x i.toNat % N
theorem b10V_bd {x : Nat → Int} {n : Nat} {i N : Int} (h : 1 ≤ N) : 0 ≤ b10V x n i N ∧ b10V x n i N < N := by
  unfold b10V
  split
  · omega
  · split
    · exact ⟨Int.emod_nonneg _ (by omega), Int.emod_lt_of_pos _ (by omega)⟩
    · exact ⟨Int.emod_nonneg _ (by omega), Int.emod_lt_of_pos _ (by omega)⟩
theorem r8V_bd {x : Nat → Int} {n : Nat} {i N : Int} (h : 1 ≤ N) : 0 ≤ r8V x n i N ∧ r8V x n i N < N := by
  unfold r8V
  split
  · omega
  · exact ⟨Int.emod_nonneg _ (by omega), Int.emod_lt_of_pos _ (by omega)⟩
theorem int_eqb {a b : Int} (h : a = b) : Ending.returned (.int .i64 a) = .returned (.int .i64 b) := by rw [h]
end Go
namespace Go.Proofs.Ytjebkagbknmdoaa
open Go.RowKit Go.Dues
theorem Try.cellsU8 : Try.prog.cellsOf 5 = 1 := by kernel_rfl
end Go.Proofs.Ytjebkagbknmdoaa
