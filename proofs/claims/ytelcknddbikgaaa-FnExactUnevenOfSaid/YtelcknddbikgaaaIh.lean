/- Incomes that are not all 0; ShareOfTop, by both. -/
import Derived.Test.YtelcknddbikgaaaIs
namespace Go.Proofs.Ytelcknddbikgaaa
open Go.RowKit Go.Dues
def haP (x : Nat → Int) (n : Nat) : Prop := allP x n 1 64 0 1000000000 ∧ ¬ psum x n = 0
theorem ha_bd {x : Nat → Int} {n : Nat} (h : allP x n 1 64 0 1000000000) : 0 ≤ psum x n ∧ psum x n ≤ 64000000000 := by
  have h1 := psum_capM h.2
  have h2 := h.1.2
  omega
theorem inc_wide {x : Nat → Int} {n : Nat} (h : allP x n 1 64 0 1000000000) : ∀ j, j < n → -1000000000000 ≤ x j ∧ x j ≤ 1000000000000 := fun j hj => by have := h.2 j hj; omega
set_option maxHeartbeats 2000000 in
theorem implHave_any (A : Option Addr) (n c : Nat) (x : Nat → Int) (w : World) (hn : n ≤ maxLen) (hs : SL w A n (fun j => .int .i64 (x j))) :
    Calls Try.prog 57 #[.slice A n c] w fun e w' => e = .returned (.bool (tru (haP x n))) ∧ Below w.heap.size w w' := by
  have HA := hide (areAll_isIncome A n c x 1 64 w hn hs)
  have HS := hide hs
  unfold maxLen at hn
  clear hs
  by_cases hall : allP x n 1 64 0 1000000000
  rotate_left
  · have HT := hide (tru_no (show ¬ haP x n from fun h => hall h.1))
    have HAT := hide (tru_no hall)
    go_enter Try.func57, Try.ntmps57
    go_wp2_with (go_at_call 17; go_in)
    refine HA.out.mono ?_
    rw [HAT.out]
    rintro e w1 ⟨rfl, hb⟩
    have HB := hide hb
    clear hb
    go_wp2
    go_ret
    exact ⟨retBa HT.out.symm, HB.out⟩
  have HAT := hide (tru_yes hall)
  have HAL := hide hall
  have n64 := hall.1.2
  obtain ⟨s0, s1⟩ := ha_bd hall
  clear hall
  obtain ⟨S, hS⟩ : ∃ S, psum x n = S := ⟨_, rfl⟩
  have HT := hide (show decide (0 < S) = tru (haP x n) by
    by_cases h0 : S = 0
    · rw [tru_no (show ¬ haP x n from fun h => h.2 (by rw [hS, h0]))]; simp; omega
    · rw [tru_yes (show haP x n from ⟨HAL.out, by rw [hS]; exact h0⟩)]; simp; omega)
  have HSM := fun w hs => hide (sumBy_itself A n c x w (by omega) (inc_wide HAL.out) hs)
  rw [hS] at HSM s0 s1
  clear hS
  go_enter Try.func57, Try.ntmps57
  go_wp2_with (go_at_call 17; go_in)
  refine HA.out.mono ?_
  rw [HAT.out]
  rintro e w1 ⟨rfl, hb⟩
  have HB := hide hb
  clear hb
  go_wp2_with fail
  refine (HSM _ (HS.out.below HB.out)).out.mono ?_
  rintro e w2 ⟨rfl, rfl⟩
  go_wp2
  go_ret
  exact ⟨retBa HT.out, HB.out⟩
def stP (x : Nat → Int) (n : Nat) (c : Int) : Prop := haP x n ∧ (0 ≤ c ∧ c ≤ n)
def stT (x : Nat → Int) (n c : Nat) : Int := psum (fun j => ascF x n (n - c + j)) c
def stA (x : Nat → Int) (n : Nat) (c : Int) : Int := stT x n c.toNat / gcd9 (stT x n c.toNat) (psum x n)
def stB (x : Nat → Int) (n : Nat) (c : Int) : Int := psum x n / gcd9 (stT x n c.toNat) (psum x n)
theorem stT_bd {x : Nat → Int} {n c : Nat} (h : allP x n 1 64 0 1000000000) (hc : c ≤ n) : 0 ≤ stT x n c ∧ stT x n c ≤ 64000000000 := by
  have h1 := psum_capM (x := fun j => ascF x n (n - c + j)) (n := c) (M := 1000000000) (fun j hj => ascF_bd (lo := 0) h.2 (by omega))
  have h2 := h.1.2
  unfold stT
  omega
end Go.Proofs.Ytelcknddbikgaaa
