/- The least payment that is enough, by both. -/
import Derived.Test.YtadgkecbcadfpabLn
namespace Go.Proofs.Ytadgkecbcadfpab
open Go.RowKit Go.Dues
theorem retB {a b : Bool} (h : a = b) : Ending.returned (.bool a) = .returned (.bool b) := by rw [h]
theorem viB {a b : Int} (h : a = b) : Value.int .i64 a = .int .i64 b := by rw [h]
/-- p pays the loan in n terms -/
def enP (c r n p : Int) : Prop := tabP c r p n ∧ restN c r p n.toNat = 0
theorem enP_mono {c r n p q : Int} (h : enP c r n q) (hq : q ≤ p) (hp : p ≤ 1000000000) : enP c r n p := by
  obtain ⟨⟨h1, h2, h3, h4, h5⟩, h6⟩ := h
  have := paidP_mono h1.1 h2.1 hq ⟨h5, h6⟩
  exact ⟨⟨h1, h2, ⟨by omega, hp⟩, h4, this.1⟩, this.2⟩
/-- p is the least that is enough, or the greatest that there is -/
def leastP (c r n p : Int) : Prop := 0 ≤ p ∧ p ≤ 1000000000 ∧ (p = 1000000000 ∨ enP c r n p) ∧ (p = 0 ∨ ¬ enP c r n (p - 1))
theorem leastP_uniq {c r n p q : Int} (hp : leastP c r n p) (hq : leastP c r n q) : p = q := by
  obtain ⟨p0, p1, p2, p3⟩ := hp
  obtain ⟨q0, q1, q2, q3⟩ := hq
  rcases Int.lt_trichotomy p q with h | h | h
  · exfalso
    rcases q3 with q3 | q3
    · omega
    · rcases p2 with p2 | p2
      · omega
      · exact q3 (enP_mono p2 (by omega) (by omega))
  · exact h
  · exfalso
    rcases p3 with p3 | p3
    · omega
    · rcases q2 with q2 | q2
      · omega
      · exact p3 (enP_mono q2 (by omega) (by omega))
noncomputable def leastV (c r n : Int) : Int := @Classical.epsilon Int ⟨0⟩ (fun p => leastP c r n p)
theorem leastV_eq {c r n p : Int} (h : leastP c r n p) : p = leastV c r n := leastP_uniq h (@Classical.epsilon_spec_aux Int ⟨0⟩ (fun p => leastP c r n p) ⟨p, h⟩)
def payP (c r n : Int) : Prop := enP c r n 1000000000
theorem least_en {c r n p : Int} (h : leastP c r n p) : enP c r n p ↔ payP c r n := by
  constructor
  · intro hp; exact enP_mono hp h.2.1 (by omega)
  · intro hp
    rcases h.2.2.1 with h1 | h1
    · rw [h1]; exact hp
    · exact h1
theorem cells_one' {A : Option Addr} {n : Nat} {f : Nat → Value} {w : World} (hs : SL w A n f) : Hid (∀ k, k < n → ∃ b off, A = some ⟨b, off, none⟩ ∧ b < w.heap.size ∧ w.cell? ⟨b, off + k, none⟩ = some (f k)) := by
  intro k hk
  obtain ⟨b, off, h1, h2, h3⟩ := hs.at_ (by omega)
  exact ⟨b, off, h1, h2, h3 k hk⟩
theorem specMax0_any (a b : Int) (w : World) : Calls Try.prog 71 #[.int .i64 a, .int .i64 b] w fun e w' => e = .returned (.int .i64 (max a b)) ∧ w = w' := by
  by_cases h : b < a
  · have HB := hide (show max a b = a by omega)
    go_enter Try.func71, Try.ntmps71
    go_wp2
    go_ret
    exact ⟨reti HB.out.symm, rfl⟩
  · have HB := hide (show max a b = b by omega)
    go_enter Try.func71, Try.ntmps71
    go_wp2
    go_ret
    exact ⟨reti HB.out.symm, rfl⟩
theorem ret2i {a b a' b' : Int} (h : a = a') (h2 : b = b') : Ending.returned (.tuple #[.int .i64 a, .int .i64 b]) = .returned (.tuple #[.int .i64 a', .int .i64 b']) := by rw [h, h2]
set_option maxHeartbeats 2000000 in
theorem specTerm_any (c r p : Int) (w : World) (c0 : 0 ≤ c) (c1 : c ≤ 1000000000000) (r0 : 0 ≤ r) (r1 : r ≤ 100000) (p0 : 0 ≤ p) (p1 : p ≤ 1000000000) :
    Calls Try.prog 85 #[.int .i64 c, .int .i64 r, .int .i64 p] w fun e w' => e = .returned (.tuple #[.int .i64 (intr c r), .int .i64 (stepL r p c)]) ∧ w = w' := by
  obtain ⟨m0, m1, i0, i1⟩ := intr_bd c0 c1 r0 r1
  have e1 : 2 * c * r = 2 * (c * r) := Int.mul_assoc _ _ _
  have q0 : 0 ≤ 2 * c * r := by omega
  have q1 : 2 * c * r ≤ 200000000000000000 := by omega
  have HI := hide (show (2 * c * r + 10000) / 20000 = intr c r by unfold intr; rw [rnd1_lit, e1])
  have HS := hide (show max 0 (c + (2 * c * r + 10000) / 20000 - p) = stepL r p c by rw [HI.out]; rfl)
  have d0 : 0 ≤ (2 * c * r + 10000) / 20000 := by omega
  have d1 : (2 * c * r + 10000) / 20000 ≤ 10000000000001 := by omega
  clear e1 i0 i1
  go_enter Try.func85, Try.ntmps85
  go_wp2_with (go_at_call 71; refine (specMax0_any _ _ _).mono ?_; rintro e w' ⟨rfl, rfl⟩)
  go_ret2
  exact ⟨ret2i HI.out HS.out, rfl⟩
end Go.Proofs.Ytadgkecbcadfpab
