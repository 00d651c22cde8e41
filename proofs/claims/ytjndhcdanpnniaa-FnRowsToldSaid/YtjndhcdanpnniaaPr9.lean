/- Plain arithmetic of rows: counts and gaps make all. -/
import Derived.Test.YtjndhcdanpnniaaScp
import Derived.Test.YtjndhcdanpnniaaP5
namespace Go.Dues
theorem psum_ind (r : Int) : ∀ n : Nat, psum (fun j => if r = (j : Int) then 1 else 0) n = if 0 ≤ r ∧ r < n then 1 else 0
  | 0 => by rw [if_neg (by omega)]; rfl
  | n + 1 => by
    rw [psum_succ, psum_ind r n]
    by_cases e : r = (n : Int)
    · rw [if_neg (by omega), if_pos e, if_pos (by push_cast; omega)]; rfl
    · rw [if_neg e]
      by_cases h : 0 ≤ r ∧ r < n
      · rw [if_pos h, if_pos (by push_cast; omega)]; rfl
      · rw [if_neg h, if_neg (by push_cast; omega)]; rfl
theorem psum_addf (f g : Nat → Int) (n : Nat) : psum (fun j => f j + g j) n = psum f n + psum g n := by
  induction n with
  | zero => rfl
  | succ n ih => rw [psum_succ, psum_succ, psum_succ, ih]; omega
theorem psum_nil (n : Nat) : psum (fun _ => 0) n = 0 := by
  induction n with
  | zero => rfl
  | succ n ih => rw [psum_succ, ih]; rfl
/-- counts and gaps make all -/
theorem cnt_total (x : Nat → Int) (n : Nat) : ∀ T : Nat, psum (fun j => cntR x n j T) n + ((flt (gapB x n) T).length : Int) = T
  | 0 => by rw [show (fun j => cntR x n j 0) = fun _ => 0 from rfl, psum_nil]; rfl
  | T + 1 => by
    have ih := cnt_total x n T
    have hb := fstR_bd x T n
    rw [show (fun j => cntR x n j (T + 1)) = fun j => (fun j => cntR x n j T) j + (fun j : Nat => if fstR x T n = (j : Int) then 1 else 0) j from rfl, psum_addf, psum_ind]
    cases hg : gapB x n T
    · rw [flt_no hg]
      have : ¬ fstR x T n < 0 := by unfold gapB at hg; exact of_decide_eq_false hg
      rw [if_pos (by omega)]; push_cast; omega
    · rw [flt_yes hg, List.length_append]
      have : fstR x T n < 0 := by unfold gapB at hg; exact of_decide_eq_true hg
      rw [if_neg (by omega)]
      simp only [List.length_cons, List.length_nil]
      push_cast; omega
/-- whether a list has a number -/
def hasQ (z : Nat → Int) (n : Nat) (q : Int) : Prop := ∃ j, j < n ∧ z j = q
theorem has_il {p : Nat → Bool} {T q : Nat} (hq : q < T) : hasQ (gl (il (flt p T))) (il (flt p T)).length q ↔ p q = true := by
  have hm : (∃ j, j < (il (flt p T)).length ∧ gl (il (flt p T)) j = (q : Int)) ↔ (q : Int) ∈ il (flt p T) := by
    rw [List.mem_iff_getElem]
    constructor
    · rintro ⟨j, hj, h⟩
      refine ⟨j, hj, ?_⟩
      unfold gl at h
      rw [List.getElem?_eq_getElem hj] at h
      exact h
    · rintro ⟨j, hj, h⟩
      refine ⟨j, hj, ?_⟩
      unfold gl
      rw [List.getElem?_eq_getElem hj]
      exact h
  unfold hasQ
  rw [hm]
  unfold il
  rw [List.mem_map]
  constructor
  · rintro ⟨k, hk, e⟩
    have : k = q := by have : (k : Int) = (q : Int) := e; omega
    subst this
    exact (flt_mem.1 hk).2
  · intro h
    exact ⟨q, flt_mem.2 ⟨hq, h⟩, rfl⟩
end Go.Dues
